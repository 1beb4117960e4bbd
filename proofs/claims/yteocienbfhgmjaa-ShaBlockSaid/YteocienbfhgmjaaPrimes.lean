/- The iterator primes of package sha: its contract, for 64 primes at most. -/
import Derived.RangeFuncNested
import Derived.RangeFuncBound
import Derived.RangeFuncCalls
import Derived.RangeFuncLeaves
import Derived.Shelf.Abstract
import Derived.Shelf.RegionOpen
import Derived.WalkKit
import Derived.OwnWalkIn
import Derived.TacticsInMore
import Derived.LoopNIn
import Derived.LoopIn
import Derived.Test.YteocienbfhgmjaaProg
import Derived.Test.YteocienbfhgmjaaPrimeP
import Derived.Test.YteocienbfhgmjaaPrime
namespace Go.Proofs.Yteocienbfhgmjaa
open Go.RowKit Go.Shelf
attribute [local go_sem] Oper.semAt_some

/-- A prime below 400 with its place, which is below m. -/
abbrev PR (m : Nat) := { x : Nat × Nat // x.1 < m ∧ x.2 < 400 }
def encP {m : Nat} (x : PR m) : Array Value := #[.int .i64 (x.1.1 : Int), .int .u32 (x.1.2 : Int)]
/-- The primes below p, each with its place. -/
def placed (l : List Nat) : List (Nat × Nat) := (List.range l.length).zip l

/-- Block b stays as it was. -/
def KpB (b : Nat) (W W' : World) : Prop := W'.heap[b]? = W.heap[b]?
theorem kpB_t {b : Nat} {A B C : World} (h : KpB b A B) (k : KpB b B C) : KpB b A C := Eq.trans k h
theorem kpB_b {b : Nat} {w : World} (hb : b < w.heap.size) (W : World) (l : Nat) (o o' : Obj) (hl : w.heap.size ≤ l) (_ : W.heap[l]? = some o) (_ : o.isCells = false) (_ : o.isWalk = false) : KpB b W (W.putObj l o') := by
  have hg := (grownBy_putObj' W l o')
  by_cases h : b < W.heap.size
  · exact hg.block b h (by intro e; cases e; omega)
  · have h1 : W.heap[b]? = none := by simp; omega
    have h2 : (W.putObj l o').heap[b]? = none := by simp [World.putObj]; omega
    exact h2.trans h1.symm

theorem placed_snoc (l : List Nat) (p : Nat) : placed (l ++ [p]) = placed l ++ [(l.length, p)] := by
  simp [placed, List.range_succ, List.zip_append]
theorem length_placed (l : List Nat) : (placed l).length = l.length := by simp [placed]

set_option maxRecDepth 100000 in
set_option maxHeartbeats 1000000 in
theorem primes_stops (m : Nat) (hm : m ≤ 64) (B : Nat) (W0 : World) (hB : B < W0.heap.size) (hc : W0.cell? ⟨B, 0, none⟩ = some (.int .i64 (m : Int))) :
    SeqStopsK Fence.wide 2 Try.prog 40 #[.pointer (some ⟨B, 0, none⟩)] (encP (m := m)) (KpB B) (fun xs => xs.map Subtype.val = placed ((primesTo 312).take m)) (fun _ => True) m W0 := fun l J Jx W hW hJ hJx hY h0 => by
  refine callsIn_of_wp Try.func40 rfl trivial ?_ rfl
  simp only [Try.ntmps40, List.size_toArray, List.length_cons, List.length_nil, Nat.reduceAdd, Nat.reduceSub, Array.replicate_succ, Array.replicate_zero, List.push_toArray, List.append_toArray, List.nil_append, List.cons_append]
  have hcW : W.cell? ⟨B, 0, none⟩ = some (.int .i64 (m : Int)) := (hW.cell (p := ⟨B, 0, none⟩) (by show B < _; omega)).trans hc
  gi_wp2
  gi_loopw [3, 4] (fun i q wr => ∃ p : Nat, 2 ≤ p ∧ i = .int .i64 ((primesTo p).length : Int) ∧ q = .int .u32 (p : Int) ∧ (primesTo p).length ≤ m ∧ p ≤ 312 ∧ wr.cell? ⟨B, 0, none⟩ = some (.int .i64 (m : Int)) ∧ ∃ pre : List (PR m), pre.map Subtype.val = placed (primesTo p) ∧ J pre wr)
    (fun _ q _ => 400 - (intOf q).toNat)
  case atStart => exact ⟨2, by omega, rfl, rfl, Nat.zero_le _, by omega, hcW, [], rfl, h0⟩
  case round =>
    obtain ⟨p, hp2, rfl, rfl, hlen, hp312, hcr, pre, hpre, hJs⟩ := hrel
    have HP := hide hpre
    have hpl : pre.length = (primesTo p).length := by rw [← length_placed, ← hpre, List.length_map]
    have HPL := hide hpl
    clear hpre hpl
    obtain ⟨k, hk⟩ : ∃ k, k = (primesTo p).length := ⟨_, rfl⟩
    have HK := hide hk
    rw [← hk] at hlen ⊢
    by_cases hlt : k < m
    · have hp311 := primesTo_short p (by omega)
      have hti : (k : Int) < (m : Int) := by omega
      have HJ := hide hJs
      clear hk hJs
      cases hb : primeB p
      · have HB := hide hb
        have HC := hide (callsIn_wide (n := 1).2 (prime_any p wr (by omega)))
        rw [hb] at HC
        clear hb
        gi_wp2_with fail
        refine ⟨trivial, ?_⟩
        refine HC.out.mono ?_
        rintro e w' ⟨rfl, rfl⟩
        gi_wp2
        go_roundw
        case rel =>
          have e1 := primesTo_succ_no p HB.out
          exact ⟨p + 1, by omega, by rw [e1, ← HK.out], by go_num, by rw [e1, ← HK.out]; exact hlen, by omega, hcr, pre, by rw [e1]; exact HP.out, HJ.out⟩
        case measure => simp [intOf]; omega
      · have HB := hide hb
        have HC := hide (callsIn_wide (n := 1).2 (prime_any p wr (by omega)))
        rw [hb] at HC
        clear hb
        obtain ⟨fn, tmps, assign, body, hy, hR⟩ := hY pre ⟨(k, p), hlt, by omega⟩ wr HJ.out (by rw [HPL.out, ← HK.out]; exact hlt)
        dsimp only [encP] at hy
        gi_wp2_with fail
        refine ⟨trivial, ?_⟩
        refine HC.out.mono ?_
        rintro e w' ⟨rfl, rfl⟩
        gi_wp2
        refine hR.mono ?_
        rintro e W3 (⟨rfl, hJ3, hk3⟩ | ⟨rfl, hJx3⟩)
        · have hcr3 : W3.cell? ⟨B, 0, none⟩ = some (.int .i64 (m : Int)) := (World.cell?_of_block (a := ⟨B, 0, none⟩) hk3).trans hcr
          gi_wp2
          go_roundw
          case rel =>
            have e1 := primesTo_succ_yes p hp2 HB.out
            exact ⟨p + 1, by omega, by rw [e1, List.length_append, ← HK.out]; go_num, by go_num, by rw [e1, List.length_append, ← HK.out]; simp; omega, by omega, hcr3, pre ++ [⟨(k, p), hlt, by omega⟩], by rw [e1, placed_snoc, ← HK.out, List.map_append, HP.out]; rfl, hJ3⟩
          case measure => simp [intOf]; omega
        · gi_wp2
          refine bodyPost_ret (results_none rfl _ _ _) rfl ?_
          exact ⟨⟨_, rfl⟩, .inr ⟨_, trivial, hJx3⟩⟩
    · have hkm : k = m := by omega
      have HE : Hid (primesTo p = (primesTo 312).take m) := hide (by
        have := List.prefix_iff_eq_take.1 (primesTo_prefix p 312 hp312)
        rw [← hk, hkm] at this; exact this)
      have HJ := hide hJs
      clear hk hJs hkm
      gi_wp2
      go_end0
      exact ⟨⟨_, rfl⟩, .inl ⟨pre, by rw [HP.out, HE.out], HJ.out⟩⟩
end Go.Proofs.Yteocienbfhgmjaa
