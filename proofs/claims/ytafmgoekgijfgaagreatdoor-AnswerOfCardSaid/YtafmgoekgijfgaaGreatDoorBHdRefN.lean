/- Names: the document's MayName. -/
import Derived.Test.YtafmgoekgijfgaaGreatDoorBRqM2
import Derived.StillTactics
import Derived.Shelf.RegionOpen
namespace Go.Proofs.YtafmgoekgijfgaaGreatDoor
open Go.RowKit Go.Lib

def abc (c : UInt8) : Bool := decide (97 ≤ c.toNat ∧ c.toNat ≤ 122 ∨ 48 ≤ c.toNat ∧ c.toNat ≤ 57)
theorem tok_abc (c : UInt8) : tokB c = (abc c || (tokL.take 15).contains c) := by
 exact all_u8 (P := fun c => tokB c = (abc c || (tokL.take 15).contains c)) (by decide +kernel) c
theorem tok_step (j : Fin 15) (c : UInt8) : (tokL.take (j.val + 1)).contains c = ((tokL.take j.val).contains c || decide (c = tokL.getD j.val 0)) := by
 exact all_u8 (P := fun c => ∀ j : Fin 15, (tokL.take (j.val + 1)).contains c = ((tokL.take j.val).contains c || decide (c = tokL.getD j.val 0))) (by decide +kernel) c j
theorem u8_beq (c t : UInt8) : (((c.toNat : Nat) : Int) == ((t.toNat : Nat) : Int)) = decide (c = t) := by
 by_cases h : c = t
 · rw [decide_eq_true h, h]
   exact beq_self_eq_true _
 · rw [decide_eq_false h]
   refine beq_eq_false_iff_ne.2 fun e => h (UInt8.toNat_inj.1 ?_)
   omega
def TS : ByteArray := ⟨#[33, 35, 36, 37, 38, 39, 42, 43, 45, 46, 94, 95, 96, 124, 126]⟩
theorem TS_get : ∀ j : Fin 15, TS[j.val]'(j.isLt) = tokL.getD j.val 0 := by decide
set_option maxRecDepth 100000 in
set_option maxHeartbeats 2000000 in
theorem mayNameR_any (s : ByteArray) (w : World) : Calls Tryz.prog 148 #[.string s] w (fun e w' => e = .returned (.bool (nameP s.data.toList)) ∧ Below w.heap.size w w') := by
 have hlen := size_list s
 by_cases h1 : s.size < 1
 · have hR : nameP s.data.toList = false := by
     unfold nameP
     rw [decide_eq_false (by omega), Bool.false_and]
   rw [hR]
   have h1' : (s.size : Int) < 1 := by omega
   clear hR hlen h1
   go_enter Tryz.func148, Tryz.ntmps148
   go_wp2_with fail
   go_ret
   exact ⟨rfl, Below.refl _ _⟩
 have h1' : ¬ (s.size : Int) < 1 := by omega
 by_cases h2 : 64 < s.size
 · have hR : nameP s.data.toList = false := by
     unfold nameP
     rw [decide_eq_false (by omega), Bool.false_and]
   rw [hR]
   have h2' : (64 : Int) < (s.size : Int) := by omega
   clear hR hlen h1 h2
   go_enter Tryz.func148, Tryz.ntmps148
   go_wp2_with fail
   go_ret
   exact ⟨rfl, Below.refl _ _⟩
 have h2' : ¬ (64 : Int) < (s.size : Int) := by omega
 obtain ⟨V, hV⟩ : ∃ V, s.data.toList.all tokB = V := ⟨_, rfl⟩
 have hR : nameP s.data.toList = V := by
   unfold nameP
   rw [decide_eq_true (by omega), Bool.true_and, hV]
 rw [hR]
 have HV : HidL ((s.data.toList.drop 0).all tokB = V) := ⟨hV⟩
 have HL := hideL hlen
 clear hR hV hlen h1 h2
 go_enter Tryz.func148, Tryz.ntmps148
 go_wp2_with fail
 go_loopw [3] (fun i wr => ∃ k : Nat, k ≤ s.size ∧ i = .int .i64 k ∧ HidL (Below w.heap.size w wr) ∧ HidL ((s.data.toList.drop k).all tokB = V)) (fun i _ => s.size - (RowKit.intOf i).toNat)
 case atStart => exact ⟨0, Nat.zero_le _, rfl, ⟨Below.refl _ _⟩, HV⟩
 case round =>
   obtain ⟨k, hk, rfl, HB, HD⟩ := hrel
   obtain ⟨W, rfl⟩ : ∃ W, W = wr := ⟨_, rfl⟩
   clear HV
   by_cases hlt : k < s.size
   · have hlt' : (k : Int) < (s.size : Int) := by omega
     have hD := HD.out
     rw [byte_at s k hlt, List.all_cons, tok_abc] at hD
     obtain ⟨c, hc⟩ : ∃ c, s[k] = c := ⟨_, rfl⟩
     rw [hc] at hD
     have HX := hideL hD
     clear hD HD
     have habc : abc c = decide (97 ≤ c.toNat ∧ c.toNat ≤ 122 ∨ 48 ≤ c.toNat ∧ c.toNat ≤ 57) := rfl
     have HC : HidL (∀ j : Nat, j < 15 → (tokL.take (j + 1)).contains c = ((tokL.take j).contains c || decide (c = tokL.getD j 0))) := ⟨fun j hj => tok_step ⟨j, hj⟩ c⟩
     rcases (by omega : (97 ≤ c.toNat ∧ c.toNat ≤ 122) ∨ (48 ≤ c.toNat ∧ c.toNat ≤ 57) ∨ c.toNat < 48 ∨ (57 < c.toNat ∧ c.toNat < 97) ∨ 122 < c.toNat) with H | H | H | H | H
     · have hA : abc c = true := by rw [habc]; exact decide_eq_true (by omega)
       have i0 : (97 : Int) ≤ c.toNat := by omega
       have i1 : (c.toNat : Int) ≤ 122 := by omega
       clear habc
       go_wp2_with fail
       go_loopw [4, 5] (fun g x wr => ∃ j : Nat, j ≤ 15 ∧ x = .int .i64 j ∧ g = .bool (abc c || (tokL.take j).contains c) ∧ HidL (Below w.heap.size w wr)) (fun _ x _ => 15 - (RowKit.intOf x).toNat)
       case atStart => exact ⟨0, Nat.zero_le _, rfl, by rw [hA]; rfl, HB⟩
       case round =>
         obtain ⟨j, hj, rfl, rfl, HB2⟩ := hrel
         obtain ⟨W2, rfl⟩ : ∃ W2, W2 = wr := ⟨_, rfl⟩
         by_cases hjl : j < 15
         · have hj' : (j : Int) < 15 := by omega
           have hst := HC.out j hjl
           have hget := TS_get ⟨j, hjl⟩
           have hjs : j < (⟨#[33, 35, 36, 37, 38, 39, 42, 43, 45, 46, 94, 95, 96, 124, 126]⟩ : ByteArray).size := hjl
           generalize hG : (abc c || (tokL.take j).contains c) = G at *
           cases G
           · obtain ⟨t, ht⟩ : ∃ t, tokL.getD j 0 = t := ⟨_, rfl⟩
             have hts : (⟨#[33, 35, 36, 37, 38, 39, 42, 43, 45, 46, 94, 95, 96, 124, 126]⟩ : ByteArray)[j]'hjs = t := hget.trans ht
             rw [ht] at hst
             have hn : (abc c || (tokL.take (j + 1)).contains c) = (((c.toNat : Nat) : Int) == ((t.toNat : Nat) : Int)) := by
               rw [hst, ← Bool.or_assoc, hG, Bool.false_or, u8_beq]
             have HN := hideL hn
             clear hn hst hG hget ht
             go_wp2_with go_region
             all_goals go_roundw
             all_goals first
               | (case rel => exact ⟨j + 1, by omega, by go_num, by rw [HN.out], ⟨HB2.out.drew⟩⟩)
               | (case measure => simp [RowKit.intOf]; omega)
           · have hn : (abc c || (tokL.take (j + 1)).contains c) = true := by
               rw [hst, ← Bool.or_assoc, hG]; rfl
             have HN := hideL hn
             clear hn hst hG
             go_wp2_with go_region
             all_goals go_roundw
             all_goals first
               | (case rel => exact ⟨j + 1, by omega, by go_num, by rw [HN.out], ⟨HB2.out.drew⟩⟩)
               | (case measure => simp [RowKit.intOf]; omega)
         · obtain rfl : j = 15 := by omega
           have hj' : ¬ ((15 : Nat) : Int) < 15 := by omega
           have hX := HX.out
           obtain ⟨T, hT⟩ : ∃ T, (abc c || (tokL.take 15).contains c) = T := ⟨_, rfl⟩
           rw [hT] at hX ⊢
           clear hT HX
           cases T
           · rw [Bool.false_and] at hX
             subst hX
             go_wp2_with fail
             go_ret
             exact ⟨rfl, HB2.out⟩
           · rw [Bool.true_and] at hX
             have HN := hideL hX
             clear hX
             go_wp2_with fail
             go_roundw
             case rel => exact ⟨k + 1, by omega, by go_num, HB2, HN⟩
             case measure => simp [RowKit.intOf]; omega
     · have hA : abc c = true := by rw [habc]; exact decide_eq_true (by omega)
       have i0 : ¬ (97 : Int) ≤ c.toNat := by omega
       have i1 : (48 : Int) ≤ c.toNat := by omega
       have i2 : (c.toNat : Int) ≤ 57 := by omega
       clear habc
       go_wp2_with fail
       go_loopw [4, 5] (fun g x wr => ∃ j : Nat, j ≤ 15 ∧ x = .int .i64 j ∧ g = .bool (abc c || (tokL.take j).contains c) ∧ HidL (Below w.heap.size w wr)) (fun _ x _ => 15 - (RowKit.intOf x).toNat)
       case atStart => exact ⟨0, Nat.zero_le _, rfl, by rw [hA]; rfl, HB⟩
       case round =>
         obtain ⟨j, hj, rfl, rfl, HB2⟩ := hrel
         obtain ⟨W2, rfl⟩ : ∃ W2, W2 = wr := ⟨_, rfl⟩
         by_cases hjl : j < 15
         · have hj' : (j : Int) < 15 := by omega
           have hst := HC.out j hjl
           have hget := TS_get ⟨j, hjl⟩
           have hjs : j < (⟨#[33, 35, 36, 37, 38, 39, 42, 43, 45, 46, 94, 95, 96, 124, 126]⟩ : ByteArray).size := hjl
           generalize hG : (abc c || (tokL.take j).contains c) = G at *
           cases G
           · obtain ⟨t, ht⟩ : ∃ t, tokL.getD j 0 = t := ⟨_, rfl⟩
             have hts : (⟨#[33, 35, 36, 37, 38, 39, 42, 43, 45, 46, 94, 95, 96, 124, 126]⟩ : ByteArray)[j]'hjs = t := hget.trans ht
             rw [ht] at hst
             have hn : (abc c || (tokL.take (j + 1)).contains c) = (((c.toNat : Nat) : Int) == ((t.toNat : Nat) : Int)) := by
               rw [hst, ← Bool.or_assoc, hG, Bool.false_or, u8_beq]
             have HN := hideL hn
             clear hn hst hG hget ht
             go_wp2_with go_region
             all_goals go_roundw
             all_goals first
               | (case rel => exact ⟨j + 1, by omega, by go_num, by rw [HN.out], ⟨HB2.out.drew⟩⟩)
               | (case measure => simp [RowKit.intOf]; omega)
           · have hn : (abc c || (tokL.take (j + 1)).contains c) = true := by
               rw [hst, ← Bool.or_assoc, hG]; rfl
             have HN := hideL hn
             clear hn hst hG
             go_wp2_with go_region
             all_goals go_roundw
             all_goals first
               | (case rel => exact ⟨j + 1, by omega, by go_num, by rw [HN.out], ⟨HB2.out.drew⟩⟩)
               | (case measure => simp [RowKit.intOf]; omega)
         · obtain rfl : j = 15 := by omega
           have hj' : ¬ ((15 : Nat) : Int) < 15 := by omega
           have hX := HX.out
           obtain ⟨T, hT⟩ : ∃ T, (abc c || (tokL.take 15).contains c) = T := ⟨_, rfl⟩
           rw [hT] at hX ⊢
           clear hT HX
           cases T
           · rw [Bool.false_and] at hX
             subst hX
             go_wp2_with fail
             go_ret
             exact ⟨rfl, HB2.out⟩
           · rw [Bool.true_and] at hX
             have HN := hideL hX
             clear hX
             go_wp2_with fail
             go_roundw
             case rel => exact ⟨k + 1, by omega, by go_num, HB2, HN⟩
             case measure => simp [RowKit.intOf]; omega
     · have hA : abc c = false := by rw [habc]; exact decide_eq_false (by omega)
       have i0 : ¬ (97 : Int) ≤ c.toNat := by omega
       have i1 : ¬ (48 : Int) ≤ c.toNat := by omega
       clear habc
       go_wp2_with fail
       go_loopw [4, 5] (fun g x wr => ∃ j : Nat, j ≤ 15 ∧ x = .int .i64 j ∧ g = .bool (abc c || (tokL.take j).contains c) ∧ HidL (Below w.heap.size w wr)) (fun _ x _ => 15 - (RowKit.intOf x).toNat)
       case atStart => exact ⟨0, Nat.zero_le _, rfl, by rw [hA]; rfl, HB⟩
       case round =>
         obtain ⟨j, hj, rfl, rfl, HB2⟩ := hrel
         obtain ⟨W2, rfl⟩ : ∃ W2, W2 = wr := ⟨_, rfl⟩
         by_cases hjl : j < 15
         · have hj' : (j : Int) < 15 := by omega
           have hst := HC.out j hjl
           have hget := TS_get ⟨j, hjl⟩
           have hjs : j < (⟨#[33, 35, 36, 37, 38, 39, 42, 43, 45, 46, 94, 95, 96, 124, 126]⟩ : ByteArray).size := hjl
           generalize hG : (abc c || (tokL.take j).contains c) = G at *
           cases G
           · obtain ⟨t, ht⟩ : ∃ t, tokL.getD j 0 = t := ⟨_, rfl⟩
             have hts : (⟨#[33, 35, 36, 37, 38, 39, 42, 43, 45, 46, 94, 95, 96, 124, 126]⟩ : ByteArray)[j]'hjs = t := hget.trans ht
             rw [ht] at hst
             have hn : (abc c || (tokL.take (j + 1)).contains c) = (((c.toNat : Nat) : Int) == ((t.toNat : Nat) : Int)) := by
               rw [hst, ← Bool.or_assoc, hG, Bool.false_or, u8_beq]
             have HN := hideL hn
             clear hn hst hG hget ht
             go_wp2_with go_region
             all_goals go_roundw
             all_goals first
               | (case rel => exact ⟨j + 1, by omega, by go_num, by rw [HN.out], ⟨HB2.out.drew⟩⟩)
               | (case measure => simp [RowKit.intOf]; omega)
           · have hn : (abc c || (tokL.take (j + 1)).contains c) = true := by
               rw [hst, ← Bool.or_assoc, hG]; rfl
             have HN := hideL hn
             clear hn hst hG
             go_wp2_with go_region
             all_goals go_roundw
             all_goals first
               | (case rel => exact ⟨j + 1, by omega, by go_num, by rw [HN.out], ⟨HB2.out.drew⟩⟩)
               | (case measure => simp [RowKit.intOf]; omega)
         · obtain rfl : j = 15 := by omega
           have hj' : ¬ ((15 : Nat) : Int) < 15 := by omega
           have hX := HX.out
           obtain ⟨T, hT⟩ : ∃ T, (abc c || (tokL.take 15).contains c) = T := ⟨_, rfl⟩
           rw [hT] at hX ⊢
           clear hT HX
           cases T
           · rw [Bool.false_and] at hX
             subst hX
             go_wp2_with fail
             go_ret
             exact ⟨rfl, HB2.out⟩
           · rw [Bool.true_and] at hX
             have HN := hideL hX
             clear hX
             go_wp2_with fail
             go_roundw
             case rel => exact ⟨k + 1, by omega, by go_num, HB2, HN⟩
             case measure => simp [RowKit.intOf]; omega
     · have hA : abc c = false := by rw [habc]; exact decide_eq_false (by omega)
       have i0 : ¬ (97 : Int) ≤ c.toNat := by omega
       have i1 : (48 : Int) ≤ c.toNat := by omega
       have i2 : ¬ (c.toNat : Int) ≤ 57 := by omega
       clear habc
       go_wp2_with fail
       go_loopw [4, 5] (fun g x wr => ∃ j : Nat, j ≤ 15 ∧ x = .int .i64 j ∧ g = .bool (abc c || (tokL.take j).contains c) ∧ HidL (Below w.heap.size w wr)) (fun _ x _ => 15 - (RowKit.intOf x).toNat)
       case atStart => exact ⟨0, Nat.zero_le _, rfl, by rw [hA]; rfl, HB⟩
       case round =>
         obtain ⟨j, hj, rfl, rfl, HB2⟩ := hrel
         obtain ⟨W2, rfl⟩ : ∃ W2, W2 = wr := ⟨_, rfl⟩
         by_cases hjl : j < 15
         · have hj' : (j : Int) < 15 := by omega
           have hst := HC.out j hjl
           have hget := TS_get ⟨j, hjl⟩
           have hjs : j < (⟨#[33, 35, 36, 37, 38, 39, 42, 43, 45, 46, 94, 95, 96, 124, 126]⟩ : ByteArray).size := hjl
           generalize hG : (abc c || (tokL.take j).contains c) = G at *
           cases G
           · obtain ⟨t, ht⟩ : ∃ t, tokL.getD j 0 = t := ⟨_, rfl⟩
             have hts : (⟨#[33, 35, 36, 37, 38, 39, 42, 43, 45, 46, 94, 95, 96, 124, 126]⟩ : ByteArray)[j]'hjs = t := hget.trans ht
             rw [ht] at hst
             have hn : (abc c || (tokL.take (j + 1)).contains c) = (((c.toNat : Nat) : Int) == ((t.toNat : Nat) : Int)) := by
               rw [hst, ← Bool.or_assoc, hG, Bool.false_or, u8_beq]
             have HN := hideL hn
             clear hn hst hG hget ht
             go_wp2_with go_region
             all_goals go_roundw
             all_goals first
               | (case rel => exact ⟨j + 1, by omega, by go_num, by rw [HN.out], ⟨HB2.out.drew⟩⟩)
               | (case measure => simp [RowKit.intOf]; omega)
           · have hn : (abc c || (tokL.take (j + 1)).contains c) = true := by
               rw [hst, ← Bool.or_assoc, hG]; rfl
             have HN := hideL hn
             clear hn hst hG
             go_wp2_with go_region
             all_goals go_roundw
             all_goals first
               | (case rel => exact ⟨j + 1, by omega, by go_num, by rw [HN.out], ⟨HB2.out.drew⟩⟩)
               | (case measure => simp [RowKit.intOf]; omega)
         · obtain rfl : j = 15 := by omega
           have hj' : ¬ ((15 : Nat) : Int) < 15 := by omega
           have hX := HX.out
           obtain ⟨T, hT⟩ : ∃ T, (abc c || (tokL.take 15).contains c) = T := ⟨_, rfl⟩
           rw [hT] at hX ⊢
           clear hT HX
           cases T
           · rw [Bool.false_and] at hX
             subst hX
             go_wp2_with fail
             go_ret
             exact ⟨rfl, HB2.out⟩
           · rw [Bool.true_and] at hX
             have HN := hideL hX
             clear hX
             go_wp2_with fail
             go_roundw
             case rel => exact ⟨k + 1, by omega, by go_num, HB2, HN⟩
             case measure => simp [RowKit.intOf]; omega
     · have hA : abc c = false := by rw [habc]; exact decide_eq_false (by omega)
       have i0 : (97 : Int) ≤ c.toNat := by omega
       have i1 : ¬ (c.toNat : Int) ≤ 122 := by omega
       have i2 : (48 : Int) ≤ c.toNat := by omega
       have i3 : ¬ (c.toNat : Int) ≤ 57 := by omega
       clear habc
       go_wp2_with fail
       go_loopw [4, 5] (fun g x wr => ∃ j : Nat, j ≤ 15 ∧ x = .int .i64 j ∧ g = .bool (abc c || (tokL.take j).contains c) ∧ HidL (Below w.heap.size w wr)) (fun _ x _ => 15 - (RowKit.intOf x).toNat)
       case atStart => exact ⟨0, Nat.zero_le _, rfl, by rw [hA]; rfl, HB⟩
       case round =>
         obtain ⟨j, hj, rfl, rfl, HB2⟩ := hrel
         obtain ⟨W2, rfl⟩ : ∃ W2, W2 = wr := ⟨_, rfl⟩
         by_cases hjl : j < 15
         · have hj' : (j : Int) < 15 := by omega
           have hst := HC.out j hjl
           have hget := TS_get ⟨j, hjl⟩
           have hjs : j < (⟨#[33, 35, 36, 37, 38, 39, 42, 43, 45, 46, 94, 95, 96, 124, 126]⟩ : ByteArray).size := hjl
           generalize hG : (abc c || (tokL.take j).contains c) = G at *
           cases G
           · obtain ⟨t, ht⟩ : ∃ t, tokL.getD j 0 = t := ⟨_, rfl⟩
             have hts : (⟨#[33, 35, 36, 37, 38, 39, 42, 43, 45, 46, 94, 95, 96, 124, 126]⟩ : ByteArray)[j]'hjs = t := hget.trans ht
             rw [ht] at hst
             have hn : (abc c || (tokL.take (j + 1)).contains c) = (((c.toNat : Nat) : Int) == ((t.toNat : Nat) : Int)) := by
               rw [hst, ← Bool.or_assoc, hG, Bool.false_or, u8_beq]
             have HN := hideL hn
             clear hn hst hG hget ht
             go_wp2_with go_region
             all_goals go_roundw
             all_goals first
               | (case rel => exact ⟨j + 1, by omega, by go_num, by rw [HN.out], ⟨HB2.out.drew⟩⟩)
               | (case measure => simp [RowKit.intOf]; omega)
           · have hn : (abc c || (tokL.take (j + 1)).contains c) = true := by
               rw [hst, ← Bool.or_assoc, hG]; rfl
             have HN := hideL hn
             clear hn hst hG
             go_wp2_with go_region
             all_goals go_roundw
             all_goals first
               | (case rel => exact ⟨j + 1, by omega, by go_num, by rw [HN.out], ⟨HB2.out.drew⟩⟩)
               | (case measure => simp [RowKit.intOf]; omega)
         · obtain rfl : j = 15 := by omega
           have hj' : ¬ ((15 : Nat) : Int) < 15 := by omega
           have hX := HX.out
           obtain ⟨T, hT⟩ : ∃ T, (abc c || (tokL.take 15).contains c) = T := ⟨_, rfl⟩
           rw [hT] at hX ⊢
           clear hT HX
           cases T
           · rw [Bool.false_and] at hX
             subst hX
             go_wp2_with fail
             go_ret
             exact ⟨rfl, HB2.out⟩
           · rw [Bool.true_and] at hX
             have HN := hideL hX
             clear hX
             go_wp2_with fail
             go_roundw
             case rel => exact ⟨k + 1, by omega, by go_num, HB2, HN⟩
             case measure => simp [RowKit.intOf]; omega
   · obtain rfl : k = s.size := by omega
     have hlt' : ¬ (s.size : Int) < (s.size : Int) := by omega
     have hD := HD.out
     rw [List.drop_of_length_le (by rw [HL.out]; exact Nat.le_refl _)] at hD
     have hBt : V = true := hD.symm
     subst hBt
     clear HD hD
     go_wp2_with fail
     go_ret
     exact ⟨rfl, HB.out⟩
end Go.Proofs.YtafmgoekgijfgaaGreatDoor
