/- The document's Hex and May. -/
import Derived.Test.YtafmgoekgijfgaaGreatDoorFRqM2
namespace Go.Proofs.YtafmgoekgijfgaaGreatDoor
open Go.RowKit

def hexDL : List UInt8 := [48, 49, 50, 51, 52, 53, 54, 55, 56, 57, 97, 98, 99, 100, 101, 102, 65, 66, 67, 68, 69, 70]
def hxF (c : UInt8) : Nat → List UInt8 → Int
 | _, [] => -1
 | k, d :: r => if d = c then (if 15 < k then (k : Int) - 6 else k) else hxF c (k + 1) r
def hexI (c : UInt8) : Int := match hexV c with
 | some x => x
 | none => -1
theorem hxF_all : ∀ n : Nat, n < 256 → hxF (UInt8.ofNat n) 0 hexDL = hexI (UInt8.ofNat n) := by decide +kernel
theorem hxF_eq (c : UInt8) : hxF c 0 hexDL = hexI c := by
 have h := hxF_all c.toNat c.toNat_lt
 rwa [UInt8.ofNat_toNat] at h
set_option maxRecDepth 100000 in
set_option maxHeartbeats 400000 in
theorem hexR_any (c : UInt8) (w : World) : Calls Tryz.prog 132 #[.int .u8 c.toNat] w (fun e w' => e = .returned (.int .i64 (hexI c)) ∧ w' = w) := by
 obtain ⟨V, hV⟩ : ∃ V, hexI c = V := ⟨_, rfl⟩
 rw [hV]
 have H0 : HidL (hxF c 0 (hexDL.drop 0) = V) := ⟨by rw [List.drop_zero, hxF_eq]; exact hV⟩
 clear hV
 go_enter Tryz.func132, Tryz.ntmps132
 go_wp2_with fail
 go_loopw [3] (fun i wr => ∃ k : Nat, k ≤ 22 ∧ i = .int .i64 k ∧ wr = w ∧ HidL (hxF c k (hexDL.drop k) = V)) (fun i _ => 22 - (intOf i).toNat)
 case atStart => exact ⟨0, by omega, rfl, rfl, H0⟩
 case round =>
   obtain ⟨k, hk, rfl, hwr, HD⟩ := hrel
   rw [hwr]
   clear H0 hwr
   by_cases hlt : k < 22
   · have hlt' : (k : Int) < 22 := by omega
     have hd : hexDL.drop k = hexDL.getD k 0 :: hexDL.drop (k + 1) := by
       rw [List.drop_eq_getElem_cons (show k < hexDL.length from hlt)]
       simp [List.getD, show k < hexDL.length from hlt]
     have hix : (⟨#[48, 49, 50, 51, 52, 53, 54, 55, 56, 57, 97, 98, 99, 100, 101, 102, 65, 66, 67, 68, 69, 70]⟩ : ByteArray)[k]'hlt = hexDL.getD k 0 := by
       simp only [List.getD, List.getElem?_eq_getElem (show k < hexDL.length from hlt), Option.getD_some]
       rfl
     have hD2 := HD.out
     rw [hd, hxF] at hD2
     generalize hexDL.getD k 0 = d at *
     clear hd HD
     by_cases hdc : d = c
     · rw [if_pos hdc] at hD2
       have e1 : (((((⟨#[48, 49, 50, 51, 52, 53, 54, 55, 56, 57, 97, 98, 99, 100, 101, 102, 65, 66, 67, 68, 69, 70]⟩ : ByteArray)[k]'hlt).toNat : Nat) : Int) == ((c.toNat : Nat) : Int)) = true := by rw [hix, hdc]; exact beq_self_eq_true _
       clear hdc hix
       by_cases h15 : 15 < k
       · rw [if_pos h15] at hD2
         have i15 : (15 : Int) < (k : Int) := by omega
         subst hD2
         go_wp2_with fail
         go_ret
         exact ⟨rfl, rfl⟩
       · rw [if_neg h15] at hD2
         have i15 : ¬ (15 : Int) < (k : Int) := by omega
         subst hD2
         go_wp2_with fail
         go_ret
         exact ⟨rfl, rfl⟩
     · rw [if_neg hdc] at hD2
       have e1 : (((((⟨#[48, 49, 50, 51, 52, 53, 54, 55, 56, 57, 97, 98, 99, 100, 101, 102, 65, 66, 67, 68, 69, 70]⟩ : ByteArray)[k]'hlt).toNat : Nat) : Int) == ((c.toNat : Nat) : Int)) = false := by rw [hix]; exact beq_eq_false_iff_ne.2 (fun e => hdc (UInt8.toNat_inj.1 (by omega)))
       have HD2 := hideL hD2
       clear hdc hD2 hix
       go_wp2_with fail
       go_roundw
       case rel => exact ⟨k + 1, by omega, by go_num, trivial, HD2⟩
       case measure => simp [intOf]; omega
   · obtain rfl : k = 22 := by omega
     have hD2 : (-1 : Int) = V := HD.out
     subst hD2
     go_wp2_with fail
     go_ret
     exact ⟨rfl, rfl⟩
theorem hexI_neg (c : UInt8) : hexI c < 0 ↔ (hexV c).isSome = false := by
 unfold hexI
 cases hexV c with
 | none => simp
 | some x => simp
theorem mayT_cons (c : UInt8) (r : List UInt8) : mayT (c :: r) = (stB c && (decide (c ≠ 37) || hex2 r) && mayT r) := by rw [mayT]
theorem mayT_no {c : UInt8} (h : stB c = false) (r : List UInt8) : mayT (c :: r) = false := by rw [mayT, h]; rfl
theorem nev_at (j : Nat) (h : j < 10) : (⟨#[34, 35, 60, 62, 92, 94, 96, 123, 124, 125]⟩ : ByteArray)[j]'h = nevL.getD j 0 ∧ nevL.drop j = nevL.getD j 0 :: nevL.drop (j + 1) := by
 have hl : j < nevL.length := h
 refine ⟨?_, ?_⟩
 · simp only [List.getD, List.getElem?_eq_getElem hl, Option.getD_some]
   rfl
 · rw [List.drop_eq_getElem_cons hl]
   simp [List.getD, hl]
set_option maxRecDepth 100000 in
set_option maxHeartbeats 1000000 in
theorem mayR_any (s : ByteArray) (hs : s.size ≤ 1000000) (w : World) : Calls Tryz.prog 83 #[.string s] w (fun e w' => e = .returned (.bool (mayB s.data.toList)) ∧ Below w.heap.size w w') := by
 have hsz := size_list s
 obtain ⟨R, hR⟩ : ∃ R, mayB s.data.toList = R := ⟨_, rfl⟩
 rw [hR]
 have HH := hideL (fun (c : UInt8) (W : World) => hexR_any c W)
 by_cases h0 : s.size = 0
 · have hRf : R = false := by rw [← hR]; unfold mayB; rw [hsz, h0]; rfl
   subst hRf
   have i0 : ((s.size : Int) == 0) = true := by rw [h0]; rfl
   clear hR h0
   go_enter Tryz.func83, Tryz.ntmps83
   go_wp2_with fail
   go_ret
   exact ⟨rfl, Below.refl _ _⟩
 have i0 : ((s.size : Int) == 0) = false := beq_eq_false_iff_ne.2 (by omega)
 by_cases h5 : 512 < s.size
 · have hRf : R = false := by rw [← hR]; unfold mayB; rw [hsz, decide_eq_false (p := s.size ≤ 512) (by omega), Bool.and_false]; rfl
   subst hRf
   have i5 : (512 : Int) < (s.size : Int) := by omega
   clear hR h0
   go_enter Tryz.func83, Tryz.ntmps83
   go_wp2_with fail
   go_ret
   exact ⟨rfl, Below.refl _ _⟩
 have i5 : ¬ (512 : Int) < (s.size : Int) := by omega
 have hp : 0 < s.size := by omega
 have hh0 : s.data.toList.head? = some (s[0]'hp) := by
   have := byte_at s 0 hp
   rw [List.drop_zero] at this
   rw [this]
   rfl
 by_cases h47 : s[0]'hp = 47
 · have i47 : ((((s[0]'hp).toNat : Nat) : Int) == 47) = true := by rw [h47]; rfl
   have hRm : R = mayT s.data.toList := by
     rw [← hR]; unfold mayB
     rw [hsz, hh0, h47, decide_eq_true (show 1 ≤ s.size from hp), decide_eq_true (show s.size ≤ 512 by omega), decide_eq_true rfl]; rfl
   have H0 : HidL (mayT (s.data.toList.drop 0) = R) := ⟨by rw [List.drop_zero, hRm]⟩
   clear hR hRm hh0 h47 h0
   go_enter Tryz.func83, Tryz.ntmps83
   go_wp2_with fail
   go_loopw [3] (fun i wr => ∃ k : Nat, k ≤ s.size ∧ i = .int .i64 k ∧ HidL (Below w.heap.size w wr) ∧ HidL (mayT (s.data.toList.drop k) = R)) (fun i _ => s.size - (intOf i).toNat)
   case atStart => exact ⟨0, Nat.zero_le _, rfl, ⟨Below.refl _ _⟩, H0⟩
   case round =>
     obtain ⟨k, hk, rfl, HB, HD⟩ := hrel
     clear H0 i47 i0 i5
     obtain ⟨W, rfl⟩ : ∃ W, W = wr := ⟨_, rfl⟩
     by_cases hlt : k < s.size
     · have hlt' : (k : Int) < (s.size : Int) := by omega
       have hd := byte_at s k hlt
       have hdr := size_list s
       have hD := HD.out
       rw [hd] at hD
       obtain ⟨r, hr⟩ : ∃ r, s.data.toList.drop (k + 1) = r := ⟨_, rfl⟩
       rw [hr] at hD hd
       by_cases h33 : (s[k]).toNat < 33
       · have hR : R = false := by
           rw [← hD]
           exact mayT_no (decide_eq_false (fun h => by omega)) _
         subst hR
         have i33 : (((s[k]).toNat : Nat) : Int) < 33 := by omega
         clear hD HD hd hr
         go_wp2_with fail
         go_ret
         exact ⟨rfl, HB.out⟩
       have i33 : ¬ (((s[k]).toNat : Nat) : Int) < 33 := by omega
       by_cases h126 : 126 < (s[k]).toNat
       · have hR : R = false := by
           rw [← hD]
           exact mayT_no (decide_eq_false (fun h => by omega)) _
         subst hR
         have i126 : (126 : Int) < (((s[k]).toNat : Nat) : Int) := by omega
         clear hD HD hd hr
         go_wp2_with fail
         go_ret
         exact ⟨rfl, HB.out⟩
       have i126 : ¬ (126 : Int) < (((s[k]).toNat : Nat) : Int) := by omega
       obtain ⟨b, hb⟩ : ∃ b, decide (s[k] ∈ nevL) = b := ⟨_, rfl⟩
       have HB0 : HidL (decide (s[k] ∈ nevL.drop 0) = b) := ⟨hb⟩
       have HD2 := hideL hD
       have HDD := hideL hd
       have HRR := hideL hr
       have HST : HidL (stB s[k] = !b) := ⟨by
         rw [← hb]
         unfold stB
         rw [← decide_not]
         exact decide_eq_decide.2 ⟨fun h => h.2.2, fun h => ⟨by omega, by omega, h⟩⟩⟩
       clear hD HD hd hr hb h33 h126
       go_wp2_with fail
       go_loopw [4] (fun j wq => ∃ i : Nat, i ≤ 10 ∧ j = .int .i64 i ∧ HidL (Below w.heap.size w wq) ∧ HidL (decide (s[k] ∈ nevL.drop i) = b)) (fun j _ => 10 - (intOf j).toNat)
       case atStart => exact ⟨0, by omega, rfl, HB, HB0⟩
       case round =>
         obtain ⟨i, hi, rfl, HBq, HDi⟩ := hrel
         clear HB0 HB
         obtain ⟨Wq, rfl⟩ : ∃ W, W = wr := ⟨_, rfl⟩
         by_cases hit : i < 10
         · have hit' : (i : Int) < 10 := by omega
           obtain ⟨n1, n2⟩ := nev_at i hit
           have hDi := HDi.out
           rw [n2] at hDi
           by_cases hc : s[k] = nevL.getD i 0
           · have hbt : b = true := by rw [← hDi, hc]; exact decide_eq_true List.mem_cons_self
             subst hbt
             have hR : R = false := by
               rw [← HD2.out]
               exact mayT_no HST.out _
             subst hR
             have e1 : (((s[k].toNat : Nat) : Int) == (((⟨#[34, 35, 60, 62, 92, 94, 96, 123, 124, 125]⟩ : ByteArray)[i]'hit).toNat : Int)) = true := by rw [n1, hc]; exact beq_self_eq_true _
             have HBd := hideL HBq.out.drew
             clear hc n1 n2 hDi HDi
             go_wp2_with go_region
             all_goals go_ret
             all_goals exact ⟨rfl, HBd.out⟩
           · have e1 : (((s[k].toNat : Nat) : Int) == (((⟨#[34, 35, 60, 62, 92, 94, 96, 123, 124, 125]⟩ : ByteArray)[i]'hit).toNat : Int)) = false := by
               rw [n1]
               exact beq_eq_false_iff_ne.2 (fun e => hc (UInt8.toNat_inj.1 (by omega)))
             have HDj : HidL (decide (s[k] ∈ nevL.drop (i + 1)) = b) := ⟨by
               rw [← hDi]
               apply decide_eq_decide.2
               exact ⟨fun h => List.mem_cons_of_mem _ h, fun h => by rcases List.mem_cons.1 h with h | h; exact absurd h hc; exact h⟩⟩
             have HBd := hideL HBq.out.drew
             clear hc n1 n2 hDi HDi
             go_wp2_with go_region
             go_roundw
             case rel => exact ⟨i + 1, by omega, by go_num, HBd, HDj⟩
             case measure => simp [intOf]; omega
         · obtain rfl : i = 10 := by omega
           have hbf : b = false := by rw [← HDi.out]; rfl
           subst hbf
           have hst : stB s[k] = true := HST.out
           have hD := HD2.out
           rw [mayT_cons, hst, Bool.true_and] at hD
           clear HDi HST HD2
           by_cases h37 : s[k] = 37
           · have i37 : ((((s[k]).toNat : Nat) : Int) == 37) = true := by rw [h37]; rfl
             rw [decide_eq_false (p := s[k] ≠ 37) (by simpa using h37), Bool.false_or] at hD
             by_cases hk2 : s.size ≤ k + 2
             · have hR : R = false := by
                 rw [← hD]
                 have hl : r.length < 2 := by
                   rw [← HRR.out, List.length_drop, size_list]
                   omega
                 match r, hl with
                 | [], _ => rfl
                 | [_], _ => rfl
               subst hR
               have ik2 : (s.size : Int) ≤ (k : Int) + 2 := by omega
               clear hD h37 hst
               go_wp2_with fail
               go_ret
               exact ⟨rfl, HBq.out⟩
             · have ik2 : ¬ (s.size : Int) ≤ (k : Int) + 2 := by omega
               have hk1 : k + 1 < s.size := by omega
               have hk2' : k + 2 < s.size := by omega
               have ik1 : ((k : Int) + 1).toNat = k + 1 := by omega
               have ik2t : ((k : Int) + 2).toNat = k + 2 := by omega
               have hr2 : r = s[k + 1] :: s[k + 2] :: s.data.toList.drop (k + 3) := by rw [← HRR.out, byte_at s (k + 1) hk1, byte_at s (k + 2) hk2']
               rw [hr2, hex2] at hD
               have H1 := hideL (HH.out s[k + 1])
               have H2 := hideL (HH.out s[k + 2])
               have g1 := hexI_neg s[k + 1]
               have g2 := hexI_neg s[k + 2]
               generalize hexI s[k + 1] = a1 at *
               generalize hexI s[k + 2] = a2 at *
               cases hb1 : (hexV s[k + 1]).isSome
               · rw [hb1] at hD
                 have hR : R = false := by rw [← hD]; rfl
                 subst hR
                 have j1 : a1 < 0 := g1.2 hb1
                 clear hD h37 hst g1 g2 hb1 hr2
                 go_wp2_with (go_at_call 132; with_reducible refine (H1.out _).mono ?_; rintro e w3 ⟨rfl, hw3⟩; rw [hw3]; clear hw3 w3)
                 go_ret
                 exact ⟨rfl, HBq.out⟩
               · have j1 : ¬ a1 < 0 := fun h => by rw [g1.1 h] at hb1; cases hb1
                 cases hb2 : (hexV s[k + 2]).isSome
                 · rw [hb1, hb2] at hD
                   have hR : R = false := by rw [← hD]; rfl
                   subst hR
                   have j2 : a2 < 0 := g2.2 hb2
                   clear hD h37 hst g1 g2 hb1 hb2 hr2
                   go_wp2_with (go_at_call 132; first
                     | (with_reducible refine (H1.out _).mono ?_; rintro e w3 ⟨rfl, hw3⟩; rw [hw3]; clear hw3 w3)
                     | (with_reducible refine (H2.out _).mono ?_; rintro e w3 ⟨rfl, hw3⟩; rw [hw3]; clear hw3 w3))
                   go_ret
                   exact ⟨rfl, HBq.out⟩
                 · have j2 : ¬ a2 < 0 := fun h => by rw [g2.1 h] at hb2; cases hb2
                   rw [hb1, hb2] at hD
                   have HDn : HidL (mayT (s.data.toList.drop (k + 1)) = R) := ⟨by rw [HRR.out, hr2]; exact hD⟩
                   clear hD h37 hst g1 g2 hb1 hb2 hr2
                   go_wp2_with (go_at_call 132; first
                     | (with_reducible refine (H1.out _).mono ?_; rintro e w3 ⟨rfl, hw3⟩; rw [hw3]; clear hw3 w3)
                     | (with_reducible refine (H2.out _).mono ?_; rintro e w3 ⟨rfl, hw3⟩; rw [hw3]; clear hw3 w3))
                   go_roundw
                   case rel => exact ⟨k + 1, by omega, by go_num, HBq, HDn⟩
                   case measure => simp [intOf]; omega
           · have i37 : ((((s[k]).toNat : Nat) : Int) == 37) = false := beq_eq_false_iff_ne.2 (fun e => h37 (UInt8.toNat_inj.1 (by rw [show (37 : UInt8).toNat = 37 from rfl]; omega)))
             rw [decide_eq_true h37, Bool.true_or, Bool.true_and] at hD
             have HDn : HidL (mayT (s.data.toList.drop (k + 1)) = R) := ⟨by rw [HRR.out]; exact hD⟩
             clear hD h37 hst
             go_wp2_with fail
             go_roundw
             case rel => exact ⟨k + 1, by omega, by go_num, HBq, HDn⟩
             case measure => simp [intOf]; omega
     · obtain rfl : k = s.size := by omega
       have hD := HD.out
       rw [List.drop_of_length_le (by omega)] at hD
       have hR : R = true := by rw [← hD]; rfl
       subst hR
       clear hD HD
       go_wp2_with fail
       go_ret
       exact ⟨rfl, HB.out⟩
 · have i47 : ((((s[0]'hp).toNat : Nat) : Int) == 47) = false := beq_eq_false_iff_ne.2 (fun e => h47 (UInt8.toNat_inj.1 (by rw [show (47 : UInt8).toNat = 47 from rfl]; omega)))
   have hRf : R = false := by
     rw [← hR]; unfold mayB
     rw [hh0, decide_eq_false (p := some s[0] = some 47) (fun e => h47 (Option.some.inj e)), Bool.and_false]; rfl
   subst hRf
   clear hR h0 h47 hh0
   go_enter Tryz.func83, Tryz.ntmps83
   go_wp2_with fail
   go_ret
   exact ⟨rfl, Below.refl _ _⟩
end Go.Proofs.YtafmgoekgijfgaaGreatDoor
