/- The program's segments: its closure calls yield for each part between the slashes. -/
import Derived.RangeFuncNested
import Derived.RangeFuncBound
import Derived.RangeFuncCalls
import Derived.RangeFuncLeaves
import Derived.Shelf.Abstract
import Derived.Shelf.RegionOpen
import Derived.WalkKit
import Derived.OwnWalkIn
import Derived.TacticsInMore
import Derived.LoopNIn
import Derived.LoopIn
import Derived.Test.YthbgnkkjchaaeaaDoorPhRow
namespace Go.Proofs.YthbgnkkjchaaeaaDoor
open Go.RowKit Go.Shelf

attribute [local go_sem] Oper.semAt_some

theorem grownBy_drewN (w : World) : ∀ n, w.grownBy (w.drewN n) none
  | 0 => ⟨rfl, rfl, rfl, Nat.le_refl _, fun _ _ _ => rfl⟩
  | n + 1 => ⟨(grownBy_drewN w n).os, (grownBy_drewN w n).tape, (grownBy_drewN w n).output, (grownBy_drewN w n).size, (grownBy_drewN w n).block⟩
/-- What Cut at a slash answers. -/
def cutV (r : List UInt8) (x r' : List UInt8) (m : Bool) : Prop := splP r = x :: (if m = true then splP r' else []) ∧ r'.length + (if m = true then 1 else 0) ≤ r.length
theorem cut_slash (r : List UInt8) (hr : r.length ≤ 1000000) : ∃ x r' m, cutV r x r' m ∧ ∀ w : World, Calls Tryd.prog 20 #[.string (bo r), .string ⟨#[47]⟩] w (fun e w' => e = .returned (.tuple #[.string (bo x), .string (bo r'), .bool m]) ∧ ∃ n, w' = w.drewN n) := by
  by_cases h : (47 : UInt8) ∈ r
  · obtain ⟨a, b, rfl, ha⟩ := List.eq_append_cons_of_mem h
    refine ⟨a, b, true, ⟨?_, ?_⟩, fun w => cut_hit (bo (a ++ 47 :: b)) 47 a b rfl ha (by rw [bo_size]; exact hr) w⟩
    · rw [if_pos rfl]; exact splP_hit ha b
    · rw [if_pos rfl, List.length_append, List.length_cons]; omega
  · exact ⟨r, [], false, ⟨by rw [splP_none r h]; rfl, by simp⟩, fun w => cut_none (bo r) 47 h w⟩
def lenV : Value → Nat
  | .string s => s.size
  | _ => 0
def boV : Value → Nat
  | .bool true => 1
  | _ => 0
set_option maxRecDepth 100000 in
set_option maxHeartbeats 2000000 in
theorem segs1_in (n : Nat) (hn : 1 ≤ n) (l Bs : Nat) (s : ByteArray) (hs : s.size ≤ 1000000) (J Jx : List (List UInt8) → World → Prop)
    (hY : ∀ pre x W, J pre W → pre.length < s.size + 1 → YieldAt Fence.wide (n - 1) Tryd.prog l #[.string (bo x)] W fun e W' =>
      (e = .returned (.bool true) ∧ J (pre ++ [x]) W' ∧ True) ∨ (e = .returned (.bool false) ∧ Jx (pre ++ [x]) W'))
    (W : World) (hJ : AbidesFrom W.heap.size J) (hBs : W.cell? ⟨Bs, 0, none⟩ = some (.string s)) (h0 : J [] W) :
    CallsIn Fence.wide n Tryd.prog 50 #[.func (.yield l) #[] #[], .pointer (some ⟨Bs, 0, none⟩)] W fun e W' => (∃ v, e = .returned v) ∧
      ((∃ ys, ys = splP s.data.toList ∧ J ys W') ∨ (∃ pre, pre <+: splP s.data.toList ∧ Jx pre W')) := by
  have hDr : ∀ pre W1 k, J pre W1 → J pre (W1.drewN k) := fun pre W1 k h => hJ pre W1 _ none h (grownBy_drewN W1 k) (fun r e => by cases e)
  have hall := splP_length s.data.toList
  rw [size_list] at hall
  obtain ⟨A, hA⟩ : ∃ A, splP s.data.toList = A := ⟨_, rfl⟩
  rw [hA] at hall ⊢
  obtain ⟨x0, r0, m0, ⟨c0, c1⟩, HC0⟩ := cut_slash s.data.toList (by rw [size_list]; exact hs)
  rw [bo_of] at HC0
  rw [size_list] at c1
  rw [hA] at c0
  have HC0 := hideL HC0
  have HJ0 := hideL h0
  have HH0 : HidL (A = [] ++ (x0 :: (if m0 = true then splP r0 else [])) ∧ r0.length ≤ 1000000) := ⟨c0, by omega⟩
  have HYY := hideL hY
  have HDR := hideL hDr
  clear hJ c0 c1 hA h0 hY hDr
  refine callsIn_of_wp Tryd.func50 rfl trivial ?_ rfl
  simp only [Tryd.ntmps50, List.size_toArray, List.length_cons, List.length_nil, Nat.reduceAdd, Nat.reduceSub, Array.replicate_succ, Array.replicate_zero, List.push_toArray, List.append_toArray, List.nil_append, List.cons_append]
  gi_wp2_with (refine ⟨trivial, ?_⟩; gi_at_call 20; refine (callsIn_wide.2 (HC0.out _)).mono ?_; rintro e w2 ⟨rfl, k0, rfl⟩)
  gi_loopw [3, 4, 5] (fun vs vr vm wr => ∃ (pre : List (List UInt8)) (x r : List UInt8) (m : Bool), vs = .string (bo x) ∧ vr = .string (bo r) ∧ vm = .bool m ∧ HidL (A = pre ++ (x :: (if m = true then splP r else [])) ∧ r.length ≤ 1000000) ∧ HidL (J pre wr))
    (fun _ vr vm _ => lenV vr + boV vm)
  case atStart => exact ⟨[], x0, r0, m0, rfl, rfl, rfl, HH0, ⟨HDR.out _ _ _ HJ0.out⟩⟩
  case round =>
    obtain ⟨pre, x, r, m, rfl, rfl, rfl, hh, hj⟩ := hrel
    clear HC0 HJ0 HH0
    obtain ⟨hA, hr⟩ := hh.out
    have hlen : pre.length < s.size + 1 := by
      have := congrArg List.length hA
      rw [List.length_append, List.length_cons] at this
      omega
    obtain ⟨fn, tmps, assign, body, hy, hR⟩ := HYY.out pre x wr hj.out hlen
    try dsimp only at hy
    have HPX : HidL ((pre ++ [x]) <+: A) := ⟨⟨if m = true then splP r else [], by rw [hA, List.append_assoc]; rfl⟩⟩
    cases m
    · have HA2 : HidL (pre ++ [x] = A) := ⟨by rw [hA]; rfl⟩
      clear hA
      gi_wp2
      refine hR.mono ?_
      rintro e W3 (⟨rfl, hJ3, _⟩ | ⟨rfl, hJx3⟩)
      · gi_wp2
        go_end0
        exact ⟨⟨_, rfl⟩, .inl ⟨_, HA2.out, hJ3⟩⟩
      · gi_wp2
        go_end0
        exact ⟨⟨_, rfl⟩, .inr ⟨_, HPX.out, hJx3⟩⟩
    · obtain ⟨x', r', m', ⟨c0, c1⟩, HC⟩ := cut_slash r hr
      have HC := hideL HC
      rw [if_pos rfl, c0] at hA
      have HA2 : HidL (A = (pre ++ [x]) ++ (x' :: (if m' = true then splP r' else [])) ∧ r'.length ≤ 1000000) := ⟨by rw [hA, List.append_assoc]; rfl, by omega⟩
      clear hA c0
      gi_wp2
      refine hR.mono ?_
      rintro e W3 (⟨rfl, hJ3, _⟩ | ⟨rfl, hJx3⟩)
      · gi_wp2_with (refine ⟨trivial, ?_⟩; gi_at_call 20; refine (callsIn_wide.2 (HC.out _)).mono ?_; rintro e w2 ⟨rfl, k0, rfl⟩)
        go_roundw
        case rel => exact ⟨pre ++ [x], x', r', m', rfl, rfl, rfl, HA2, ⟨HDR.out _ _ _ hJ3⟩⟩
        case measure => cases m' <;> simp [lenV, boV, bo_size] at c1 ⊢ <;> omega
      · gi_wp2
        go_end0
        exact ⟨⟨_, rfl⟩, .inr ⟨_, HPX.out, hJx3⟩⟩
end Go.Proofs.YthbgnkkjchaaeaaDoor
