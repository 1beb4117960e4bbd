/- slices.Grow of no bytes: its contract. -/
import Derived.Test.YteocienbfhgmjaaProg
import Derived.Test.YteocienbfhgmjaaArr
import Derived.Test.YteocienbfhgmjaaEnd
import Derived.WalkKit
import Derived.WalkSpells
import Derived.WalkLawsBesides
import Derived.Lib.AppendZerosOnto
namespace Go.Proofs.Yteocienbfhgmjaa
open Go.RowKit

/-- An append whose run is known. -/
theorem wpList_append_run {P : Program} {ops : Array Oper} {rest : List Oper} {o : Oper} {a : Act} {w : World} {Q : Exit → Act → World → Prop} (hg : o.guard = none) (s x : Operand) (t tn ty : TypeId) (hop : o.op = Op.call { callee := Callee.builtin Builtin.append, args := #[s, x], argTypes := #[t, tn] })
    (hty : o.type = ty) (vs vx v : Value) (w' : World) (hs : a.eval s = vs) (hx : a.eval x = vx) (hrun : (Builtin.append_ #[t, tn] ty #[vs, vx]).run P w = .ok v w')
    (h : wpList P ops Q rest (a.put o.dst v) w') : wpList P ops Q (o :: rest) a w := by
  subst hty
  refine wpList_plain hg fun K hK => ?_
  unfold Oper.wp
  simp [execOp, hop, resolve, invoke, builtin, hs, hx, hrun, Result.andThen]
  exact hK _ _ h

set_option maxRecDepth 100000 in
theorem grow_none (w : World) :
    Calls Try.prog 55 #[.slice none 0 0, .int .i64 0] w fun e w' => e = .returned (.slice none 0 0) ∧ w = w' := by
  go_enter Try.func55, Try.ntmps55
  go_wp2
  go_ret
  exact ⟨rfl, rfl⟩

def GrowPost (k : Nat) (w : World) (e : Ending) (w' : World) : Prop :=
  ∃ cap, e = .returned (.slice (some ⟨w.heap.size, 0, none⟩) 0 cap) ∧ k ≤ cap ∧ w'.ownsRow w.heap.size 5 1 (.slice (some ⟨w.heap.size, 0, none⟩) 0 cap) 0 [] ∧ Below w.heap.size w w'

theorem growCells (k : Nat) (w : World) (h0 : 0 < k) (hk : k ≤ 140737488355328) : ∃ (cap : Nat) (C : Array Value), k ≤ cap ∧ C.size = cap ∧ cap ≤ maxLen ∧
    (Builtin.append_ #[28, 3] 28 #[.slice none 0 0, .int .i64 k]).run Try.prog w = .ok (.slice (some ⟨w.heap.size, 0, none⟩) k cap) (w.drew.alloc (.cells C 5)) := by
  obtain ⟨i0, hi, hz0, hz1, hz2⟩ := info_parts Try.info5
  have h := Lib.run_append_grow_zeros (P := Try.prog) w 28 3 28 5 i0 (.int .u8 0) .i64 .i64 Try.underlying28 Try.underlying3 hi hz0 none 0 0 [] (by simp [Builtin.firstCells]) k h0 (by omega) (by omega) (by omega) (by rw [hz2]; omega)
    (by rw [hz2]; simp [Builtin.nextslicecap, h0]; omega)
  rw [Nat.zero_add] at h
  have hge := grownCap_ge w k 0 5
  have hle := grownCap_le_maxLen w k 0 5 (by unfold maxLen; omega)
  refine ⟨_, _, hge, ?_, hle, h⟩
  simp [Builtin.zeroCells, Value.cells]
  omega

set_option maxRecDepth 100000 in
set_option maxHeartbeats 400000 in
theorem grow_any (k : Nat) (w : World) (h0 : 0 < k) (hk : k ≤ 140737488355328) :
    Calls Try.prog 55 #[.slice none 0 0, .int .i64 k] w (GrowPost k w) := by
  obtain ⟨cap, C, hkc, hC, hmax, hrun⟩ := growCells k w h0 hk
  have HC := hide hC
  have HM := hide hmax
  clear hC hmax
  go_enter Try.func55, Try.ntmps55
  have HR := hide hrun
  clear hrun
  go_wp2_with (with_reducible refine wpList_append_run rfl (.tmp 20) (.tmp 21) 28 3 28 rfl rfl (.slice none 0 0) (.int .i64 k) _ _ rfl rfl HR.out ?_)
  go_ret
  have hsz : C.size = cap * 1 := by rw [HC.out]; omega
  exact ⟨cap, rfl, hkc, World.ownsRow_made w.drew C cap (Nat.le_refl _) HM.out hsz, (Below.refl _ _).drew.alloc (Nat.le_refl _) _⟩
end Go.Proofs.Yteocienbfhgmjaa
