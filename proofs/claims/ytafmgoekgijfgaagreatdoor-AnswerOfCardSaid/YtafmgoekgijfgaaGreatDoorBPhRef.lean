/- The document's Hex and May. -/
import Derived.Test.YtafmgoekgijfgaaGreatDoorBRqM2
namespace Go.Proofs.YtafmgoekgijfgaaGreatDoor
open Go.RowKit

def hexDL : List UInt8 := [48, 49, 50, 51, 52, 53, 54, 55, 56, 57, 97, 98, 99, 100, 101, 102, 65, 66, 67, 68, 69, 70]
def hxF (c : UInt8) : Nat → List UInt8 → Int
 | _, [] => -1
 | k, d :: r => if d = c then (if 15 < k then (k : Int) - 6 else k) else hxF c (k + 1) r
def hexI (c : UInt8) : Int := match hexV c with
 | some x => x
 | none => -1
theorem hxF_all : ∀ n : Nat, n < 256 → hxF (UInt8.ofNat n) 0 hexDL = hexI (UInt8.ofNat n) := by decide +kernel
theorem hxF_eq (c : UInt8) : hxF c 0 hexDL = hexI c := by
 have h := hxF_all c.toNat c.toNat_lt
 rwa [UInt8.ofNat_toNat] at h
set_option maxRecDepth 100000 in
set_option maxHeartbeats 400000 in
theorem hexR_any (c : UInt8) (w : World) : Calls Tryz.prog 132 #[.int .u8 c.toNat] w (fun e w' => e = .returned (.int .i64 (hexI c)) ∧ w' = w) := by
 obtain ⟨V, hV⟩ : ∃ V, hexI c = V := ⟨_, rfl⟩
 rw [hV]
 have H0 : HidL (hxF c 0 (hexDL.drop 0) = V) := ⟨by rw [List.drop_zero, hxF_eq]; exact hV⟩
 clear hV
 go_enter Tryz.func132, Tryz.ntmps132
 go_wp2_with fail
 go_loopw [3] (fun i wr => ∃ k : Nat, k ≤ 22 ∧ i = .int .i64 k ∧ wr = w ∧ HidL (hxF c k (hexDL.drop k) = V)) (fun i _ => 22 - (intOf i).toNat)
 case atStart => exact ⟨0, by omega, rfl, rfl, H0⟩
 case round =>
   obtain ⟨k, hk, rfl, hwr, HD⟩ := hrel
   rw [hwr]
   clear H0 hwr
   by_cases hlt : k < 22
   · have hlt' : (k : Int) < 22 := by omega
     have hd : hexDL.drop k = hexDL.getD k 0 :: hexDL.drop (k + 1) := by
       rw [List.drop_eq_getElem_cons (show k < hexDL.length from hlt)]
       simp [List.getD, show k < hexDL.length from hlt]
     have hix : (⟨#[48, 49, 50, 51, 52, 53, 54, 55, 56, 57, 97, 98, 99, 100, 101, 102, 65, 66, 67, 68, 69, 70]⟩ : ByteArray)[k]'hlt = hexDL.getD k 0 := by
       simp only [List.getD, List.getElem?_eq_getElem (show k < hexDL.length from hlt), Option.getD_some]
       rfl
     have hD2 := HD.out
     rw [hd, hxF] at hD2
     generalize hexDL.getD k 0 = d at *
     clear hd HD
     by_cases hdc : d = c
     · rw [if_pos hdc] at hD2
       have e1 : (((((⟨#[48, 49, 50, 51, 52, 53, 54, 55, 56, 57, 97, 98, 99, 100, 101, 102, 65, 66, 67, 68, 69, 70]⟩ : ByteArray)[k]'hlt).toNat : Nat) : Int) == ((c.toNat : Nat) : Int)) = true := by rw [hix, hdc]; exact beq_self_eq_true _
       clear hdc hix
       by_cases h15 : 15 < k
       · rw [if_pos h15] at hD2
         have i15 : (15 : Int) < (k : Int) := by omega
         subst hD2
         go_wp2_with fail
         go_ret
         exact ⟨rfl, rfl⟩
       · rw [if_neg h15] at hD2
         have i15 : ¬ (15 : Int) < (k : Int) := by omega
         subst hD2
         go_wp2_with fail
         go_ret
         exact ⟨rfl, rfl⟩
     · rw [if_neg hdc] at hD2
       have e1 : (((((⟨#[48, 49, 50, 51, 52, 53, 54, 55, 56, 57, 97, 98, 99, 100, 101, 102, 65, 66, 67, 68, 69, 70]⟩ : ByteArray)[k]'hlt).toNat : Nat) : Int) == ((c.toNat : Nat) : Int)) = false := by rw [hix]; exact beq_eq_false_iff_ne.2 (fun e => hdc (UInt8.toNat_inj.1 (by omega)))
       have HD2 := hideL hD2
       clear hdc hD2 hix
       go_wp2_with fail
       go_roundw
       case rel => exact ⟨k + 1, by omega, by go_num, trivial, HD2⟩
       case measure => simp [intOf]; omega
   · obtain rfl : k = 22 := by omega
     have hD2 : (-1 : Int) = V := HD.out
     subst hD2
     go_wp2_with fail
     go_ret
     exact ⟨rfl, rfl⟩
end Go.Proofs.YtafmgoekgijfgaaGreatDoor
