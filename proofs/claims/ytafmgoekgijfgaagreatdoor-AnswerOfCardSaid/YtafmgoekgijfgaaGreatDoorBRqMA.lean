/- The chapter's examples, as the plain words read them. awake: the chapter's examples. Are headers more than is gone through? (Long) The laws' long. -/
import Derived.Test.YtafmgoekgijfgaaGreatDoorBRqM1
import Derived.WalkKit
import Derived.Test.YtafmgoekgijfgaaGreatDoorBRqOne
import Derived.Lib.SmallJoins
import Derived.Test.YtafmgoekgijfgaaGreatDoorBRqFeed
import Derived.Test.YtafmgoekgijfgaaGreatDoorBRqM5
import Derived.Test.YtafmgoekgijfgaaGreatDoorBRqM3
import Derived.Deep.RegionWith
import Derived.Deep.RegionHeld3
import Derived.Deep.CutBlock
import Derived.Deep.DeepCutAuto
import Derived.StillTailTactics
import Derived.Test.YtafmgoekgijfgaaGreatDoorBRqOwn
namespace Go.Proofs.YtafmgoekgijfgaaGreatDoor

end Go.Proofs.YtafmgoekgijfgaaGreatDoor
namespace Go.Proofs.YtafmgoekgijfgaaGreatDoor
open Go.RowKit Go.Lib

theorem cell_mark (w : World) (cs : Array Value) (T : TypeId) (fr : Nat × Nat) (a : Addr) : (w.alloc (.cells cs T fr)).cell? a = (w.alloc (.cells cs T)).cell? a := by
 have e : ∀ o : Obj, (w.alloc o).heap[a.block]? = if a.block = w.heap.size then some o else w.heap[a.block]? := fun o => Array.getElem?_push
 unfold World.cell?
 rw [e, e]
 by_cases h : a.block = w.heap.size
 · rw [if_pos h, if_pos h]
 · rw [if_neg h, if_neg h]
theorem lit_b (w : World) (b : List UInt8) (n : Nat) (hn : b.length = n) (hm : b.length ≤ 1000) (cs : Array Value) (hc : (KB.all b).toArray = cs) (fr : Nat × Nat) : GAt KB (w.alloc (.cells cs 5 fr)) (.slice (some ⟨w.heap.size, 0, none⟩) n n) b := by
 subst hn hc
 have hml : (1000 : Nat) ≤ maxLen := by decide
 obtain ⟨ao, cap, e, h1, h2, h3⟩ := (GRow.lit (K := KB) w w.heap.size b (Nat.le_refl _) (by omega)).gAt
 refine ⟨ao, cap, e, h1, h2, fun ad had i hi => ?_⟩
 obtain ⟨k1, k2, k3⟩ := h3 ad had i hi
 refine ⟨k1, ?_, fun j hj => by rw [cell_mark]; exact k3 j hj⟩
 rw [World.size_alloc] at k2 ⊢
 exact k2
end Go.Proofs.YtafmgoekgijfgaaGreatDoor
namespace Go.Proofs.YtafmgoekgijfgaaGreatDoor
open Go.RowKit Go.Lib

/-- A header, a row of headers as the laws go through them. -/
def longH (h : Hd) : Bool := decide (1000 < h.n.size) || decide (2000 < h.v.size)
def longP (l : List Hd) : Bool := decide (100 < l.length) || l.any longH
theorem longP_no {l : List Hd} (h : longP l = false) : l.length ≤ 100 ∧ ∀ a ∈ l, a.n.size ≤ 1000 ∧ a.v.size ≤ 2000 := by
 unfold longP at h
 rw [Bool.or_eq_false_iff, decide_eq_false_iff_not, List.any_eq_false] at h
 refine ⟨by omega, fun a ha => ?_⟩
 have := h.2 a ha
 unfold longH at this
 rw [Bool.or_eq_true, decide_eq_true_eq, decide_eq_true_eq] at this
 omega
theorem longP_fits {l : List Hd} (h : longP l = false) : Fits l := fun a ha => by have := (longP_no h).2 a ha; omega
set_option maxRecDepth 100000 in
set_option maxHeartbeats 400000 in
theorem long_any (v : Value) (l : List Hd) (w : World) (hv : GAt KH w v l) : Calls Tryz.prog 40 #[v] w (fun e w' => e = .returned (.bool (longP l)) ∧ Below w.heap.size w w') := by
 obtain ⟨ao, cap, rfl⟩ := hv.len
 obtain ⟨n, hnn⟩ : ∃ n, l.length = n := ⟨_, rfl⟩
 obtain ⟨B, hB⟩ : ∃ b, l.any longH = b := ⟨_, rfl⟩
 have hR : longP l = (decide (100 < n) || B) := by unfold longP; rw [hB, hnn]
 rw [hR]
 rw [hnn] at hv ⊢
 by_cases h60 : 100 < n
 · rw [decide_eq_true h60, Bool.true_or]
   have i60 : (100 : Int) < (n : Int) := by omega
   clear hR hB hnn hv h60
   go_enter Tryz.func40, Tryz.ntmps40
   go_wp2_with fail
   go_ret
   exact ⟨rfl, Below.refl _ _⟩
 · rw [decide_eq_false h60, Bool.false_or]
   have i60 : ¬ (100 : Int) < (n : Int) := by omega
   have H0 : HidL ((l.drop 0).any longH = B) := ⟨hB⟩
   have HN := hideL hnn
   have HV := hideL hv
   clear hR hB hnn hv
   go_enter Tryz.func40, Tryz.ntmps40
   go_wp2_with fail
   go_loopw [3] (fun i wr => ∃ k : Nat, k ≤ n ∧ i = .int .i64 k ∧ w = wr ∧ HidL ((l.drop k).any longH = B)) (fun i _ => n - (RowKit.intOf i).toNat)
   case atStart => exact ⟨0, Nat.zero_le _, rfl, rfl, H0⟩
   case round =>
     obtain ⟨k, hk, rfl, rfl, HD⟩ := hrel
     clear H0
     by_cases hlt : k < n
     · have hlt' : (k : Int) < (n : Int) := by omega
       obtain ⟨b, o, hao, hbl, hcell⟩ := HV.out.at (k := k) hlt
       subst hao
       have hkl : k < l.length := by rw [HN.out]; exact hlt
       have hD := HD.out
       rw [hdrop_at l k hkl, List.any_cons] at hD
       generalize l.getD k KH.dft = x at *
       obtain ⟨p, q⟩ := x
       have d0 : w.cell? ⟨b, o + k * 2, none⟩ = some (.string p) := hcell 0 (by decide)
       have d1 : w.cell? ⟨b, o + k * 2 + 1, none⟩ = some (.string q) := hcell 1 (by decide)
       have hlh : longH ⟨p, q⟩ = (decide (1000 < p.size) || decide (2000 < q.size)) := rfl
       rw [hlh] at hD
       clear hcell hbl HD hlh
       by_cases hp : 1000 < p.size
       · rw [decide_eq_true hp, Bool.true_or, Bool.true_or] at hD
         have hp' : (1000 : Int) < (p.size : Int) := by omega
         subst hD
         clear hp
         go_wp2_with fail
         go_ret
         exact ⟨rfl, Below.refl _ _⟩
       · have hp' : ¬ (1000 : Int) < (p.size : Int) := by omega
         rw [decide_eq_false hp, Bool.false_or] at hD
         by_cases hq : 2000 < q.size
         · rw [decide_eq_true hq, Bool.true_or] at hD
           have hq' : (2000 : Int) < (q.size : Int) := by omega
           subst hD
           clear hp hq
           go_wp2_with fail
           go_ret
           exact ⟨rfl, Below.refl _ _⟩
         · have hq' : ¬ (2000 : Int) < (q.size : Int) := by omega
           rw [decide_eq_false hq, Bool.false_or] at hD
           have HNX := hideL hD
           clear hp hq hD
           go_wp2_with fail
           go_roundw
           case rel => exact ⟨k + 1, by omega, by go_num, trivial, HNX⟩
           case measure => simp [RowKit.intOf]; omega
     · obtain rfl : k = n := by omega
       have hlt' : ¬ (k : Int) < (k : Int) := by omega
       have hD := HD.out
       rw [List.drop_of_length_le (by rw [HN.out]; omega)] at hD
       have hBf : B = false := hD.symm
       subst hBf
       clear hD HD
       go_wp2_with fail
       go_ret
       exact ⟨rfl, Below.refl _ _⟩
end Go.Proofs.YtafmgoekgijfgaaGreatDoor
namespace Go.Proofs.YtafmgoekgijfgaaGreatDoor
open Go.RowKit Go.Lib

end Go.Proofs.YtafmgoekgijfgaaGreatDoor
