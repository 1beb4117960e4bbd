/- slices.Equal at headers. The program's Same. One, Of, Feed, Same in written-out form, case by case: what the laws of the requests call. May, and Bytes. -/
import Derived.Test.YtafmgoekgijfgaaGreatDoorAHdRefT
import Derived.Test.YtafmgoekgijfgaaGreatDoorARqM6
import Derived.Test.YtafmgoekgijfgaaGreatDoorARqFeed
import Derived.Test.YtafmgoekgijfgaaGreatDoorARqM4
import Derived.Test.YtafmgoekgijfgaaGreatDoorARqOne
import Derived.Test.YtafmgoekgijfgaaGreatDoorARqPiece
import Derived.Test.YtafmgoekgijfgaaGreatDoorARqM1
import Derived.Test.YtafmgoekgijfgaaGreatDoorARqM8
namespace Go.Proofs.YtafmgoekgijfgaaGreatDoor
open Go.RowKit Go.Lib

set_option maxRecDepth 100000 in
set_option maxHeartbeats 1000000 in
theorem heq_any (va vb : Value) (a b : List Hd) (w : World) (ha : GAt KH w va a) (hb : GAt KH w vb b) (hm : b.length ≤ 1000) :
   Calls Tryz.prog 58 #[va, vb] w (fun e w' => e = .returned (.bool (decide (a = b))) ∧ Below w.heap.size w w') := by
 obtain ⟨ao, ac, rfl⟩ := ha.len
 obtain ⟨bo, bc, rfl⟩ := hb.len
 by_cases hne : a.length = b.length
 · have hne' : (((a.length : Nat) : Int) != ((b.length : Nat) : Int)) = false := by rw [hne]; simp
   obtain ⟨V, hV⟩ : ∃ V, decide (a = b) = V := ⟨_, rfl⟩
   rw [hV]
   have H0 : HidL (decide (a.drop 0 = b.drop 0) = V) := ⟨hV⟩
   obtain ⟨n, hn⟩ : ∃ n, b.length = n := ⟨_, rfl⟩
   rw [hn] at hne hb hne' hm ⊢
   rw [hne] at ha hne' ⊢
   have HA := hideL ha
   have HB' := hideL hb
   have HN := hideL hne
   have HM := hideL hn
   clear ha hb hV hne hn
   go_enter Tryz.func58, Tryz.ntmps58
   go_wp2_with fail
   go_loopw [13] (fun i wr => ∃ k : Nat, k ≤ n ∧ i = .int .i64 k ∧ HidL (Below w.heap.size w wr) ∧ HidL (decide (a.drop k = b.drop k) = V)) (fun i _ => n - (RowKit.intOf i).toNat)
   case atStart => exact ⟨0, Nat.zero_le _, rfl, ⟨Below.refl _ _⟩, H0⟩
   case round =>
     obtain ⟨k, hk, rfl, HB, HD⟩ := hrel
     clear H0
     obtain ⟨W, rfl⟩ : ∃ W, W = wr := ⟨_, rfl⟩
     by_cases hlt : k < n
     · have hlt' : (k : Int) < (n : Int) := by omega
       obtain ⟨b1, o1, e1, l1, c1⟩ := HA.out.at (k := k) hlt
       obtain ⟨b2, o2, e2, l2, c2⟩ := HB'.out.at (k := k) hlt
       subst e1 e2
       have hD := HD.out
       rw [heads_step (by rw [HN.out]; exact hlt) (by rw [HM.out]; exact hlt)] at hD
       generalize a.getD k KH.dft = x at *
       generalize b.getD k KH.dft = y at *
       obtain ⟨xn, xv⟩ := x
       obtain ⟨yn, yv⟩ := y
       have d1 : W.cell? ⟨b1, o1 + k * 2, none⟩ = some (.string xn) := (HB.out.cell (p := ⟨b1, o1 + k * 2, none⟩) l1).trans (c1 0 (by decide))
       have d2 : W.cell? ⟨b1, o1 + k * 2 + 1, none⟩ = some (.string xv) := (HB.out.cell (p := ⟨b1, o1 + k * 2 + 1, none⟩) l1).trans (c1 1 (by decide))
       have d3 : W.cell? ⟨b2, o2 + k * 2, none⟩ = some (.string yn) := (HB.out.cell (p := ⟨b2, o2 + k * 2, none⟩) l2).trans (c2 0 (by decide))
       have d4 : W.cell? ⟨b2, o2 + k * 2 + 1, none⟩ = some (.string yv) := (HB.out.cell (p := ⟨b2, o2 + k * 2 + 1, none⟩) l2).trans (c2 1 (by decide))
       clear HD l1 l2 c1 c2
       by_cases hx : xn = yn ∧ xv = yv
       · have he1 := eqs_true hx.1
         have he2 := eqs_true hx.2
         rw [decide_eq_true (show (⟨xn, xv⟩ : Hd) = ⟨yn, yv⟩ by rw [hx.1, hx.2]), Bool.true_and] at hD
         have HN2 := hideL hD
         clear hD hx
         go_wp2_with go_region
         all_goals go_roundw
         all_goals first
           | (case rel => exact ⟨k + 1, by omega, by go_num, ⟨HB.out.drew⟩, HN2⟩)
           | (case measure => simp [RowKit.intOf]; omega)
       · rw [decide_eq_false (fun e : (⟨xn, xv⟩ : Hd) = ⟨yn, yv⟩ => hx (by injection e with e1 e2; exact ⟨e1, e2⟩)), Bool.false_and] at hD
         subst hD
         by_cases hy : xn = yn
         · have he1 := eqs_true hy
           have he2 := eqs_false (fun e => hx ⟨hy, e⟩)
           clear hx hy
           go_wp2_with go_region
           all_goals go_ret
           all_goals exact ⟨rfl, HB.out.drew⟩
         · have he1 := eqs_false hy
           clear hx hy
           go_wp2_with go_region
           all_goals go_ret
           all_goals exact ⟨rfl, HB.out.drew⟩
     · obtain rfl : k = n := by omega
       have hlt' : ¬ (k : Int) < (k : Int) := by omega
       have hD := HD.out
       rw [List.drop_of_length_le (by rw [HN.out]; omega), List.drop_of_length_le (by rw [HM.out]; omega)] at hD
       have hBt : V = true := by rw [← hD]; rfl
       subst hBt
       clear HD hD
       go_wp2_with fail
       go_ret
       exact ⟨rfl, HB.out⟩
 · rw [decide_eq_false (fun e => hne (by rw [e]))]
   have hne' : (((a.length : Nat) : Int) == ((b.length : Nat) : Int)) = false := beq_eq_false_iff_ne.2 (by omega)
   clear ha hb
   go_enter Tryz.func58, Tryz.ntmps58
   go_wp2_with fail
   go_ret
   exact ⟨rfl, Below.refl _ _⟩
end Go.Proofs.YtafmgoekgijfgaaGreatDoor
namespace Go.Proofs.YtafmgoekgijfgaaGreatDoor
open Go.RowKit Go.Lib

end Go.Proofs.YtafmgoekgijfgaaGreatDoor
namespace Go.Proofs.YtafmgoekgijfgaaGreatDoor
open Go.RowKit Go.Lib

end Go.Proofs.YtafmgoekgijfgaaGreatDoor
namespace Go.Proofs.YtafmgoekgijfgaaGreatDoor
open Go.RowKit Go.Lib

end Go.Proofs.YtafmgoekgijfgaaGreatDoor
