/- slices.Values at names: its closure calls yield for each name in order. -/
import Derived.RangeFuncNested
import Derived.RangeFuncBound
import Derived.RangeFuncCalls
import Derived.RangeFuncLeaves
import Derived.RangeFuncBox
import Derived.Shelf.Abstract
import Derived.Shelf.RegionOpen
import Derived.WalkKit
import Derived.OwnWalkIn
import Derived.TacticsInMore
import Derived.LoopNIn
import Derived.LoopIn
import Derived.Test.YtjbfaaoeoggkpaaNmArg
namespace Go.Proofs.Ytjbfaaoeoggkpaa
open Go.RowKit Go.Shelf

attribute [local go_sem] Oper.semAt_some

def Nm.val (n : Nm) : Value := .agg #[.string n.ns, .string n.sa]
theorem getD_nm (l : List Nm) (k : Nat) : l.getD k default = l.getD k KN.dft := rfl

set_option maxRecDepth 100000 in
set_option maxHeartbeats 2000000 in
/-- FOR EVERY LOOP BODY THAT KEEPS WHAT LAY BELOW n₀. -/
theorem values1_in (F : Fence) (n : Nat) (h7 : F.fn 34) (hro : F.round = none) (hn : 1 ≤ n) (l Bs n₀ len cap : Nat) (ao : Option Addr) (zs : List Nm) (hz : zs.length = len) (hreach : len ≤ 1000) (hb : ∀ ad, ao = some ad → 0 < len → ad.block < n₀) (J Jx : List Nm → World → Prop)
    (hY : ∀ pre x W, J pre W → pre.length < len → YieldAt F (n - 1) Try.prog l #[.agg #[.string x.ns, .string x.sa]] W fun e W' =>
      (e = .returned (.bool true) ∧ J (pre ++ [x]) W' ∧ Below n₀ W W') ∨ (e = .returned (.bool false) ∧ Jx (pre ++ [x]) W'))
    (W : World) (hJ : AbidesFrom W.heap.size J) (hBs : W.cell? ⟨Bs, 0, none⟩ = some (.slice ao len cap)) (hW : n₀ ≤ W.heap.size) (hc : GAt KN W (.slice ao len cap) zs) (h0 : J [] W) :
    CallsIn F n Try.prog 34 #[.func (.yield l) #[] #[], .pointer (some ⟨Bs, 0, none⟩)] W fun e W' => (∃ v, e = .returned v) ∧
      ((∃ ys, ys = zs ∧ J ys W') ∨ (∃ pre, pre <+: zs ∧ Jx pre W')) := by
  refine callsIn_of_wp Try.func34 rfl h7 ?_ hro
  simp only [Try.ntmps34, List.size_toArray, List.length_cons, List.length_nil, Nat.reduceAdd, Nat.reduceSub, Array.replicate_succ, Array.replicate_zero, List.push_toArray, List.append_toArray, List.nil_append, List.cons_append]
  gi_wp2
  gi_loopw [7] (fun i wr => ∃ k : Nat, k ≤ len ∧ i = .int .i64 k ∧ J (zs.take k) wr ∧ Below n₀ W wr)
    (fun i _ => len - (intOf i).toNat)
  case atStart => exact ⟨0, Nat.zero_le _, rfl, h0, Below.refl _ _⟩
  case round =>
    obtain ⟨k, hk, rfl, hJs, hnx⟩ := hrel
    by_cases hlt : k < len
    · obtain ⟨b, o, hao, hbl, hcell⟩ := hc.at (k := k) hlt
      subst hao
      have hbn : b < n₀ := hb _ rfl (by omega)
      have ht : zs.take (k + 1) = zs.take k ++ [zs.getD k KN.dft] := by
        rw [List.take_add_one]
        simp [List.getD, show k < zs.length by omega]
      have hpre : zs.take (k + 1) <+: zs := List.take_prefix _ _
      generalize zs.getD k KN.dft = x at hcell ht
      obtain ⟨p, q⟩ := x
      have d0 : wr.cell? ⟨b, o + k * 2, none⟩ = some (.string p) := (hnx.cell (p := ⟨b, o + k * 2, none⟩) (by omega)).trans (hcell 0 (by decide))
      have d1 : wr.cell? ⟨b, o + k * 2 + 1, none⟩ = some (.string q) := (hnx.cell (p := ⟨b, o + k * 2 + 1, none⟩) (by omega)).trans (hcell 1 (by decide))
      have hBa : Below n₀ wr (wr.alloc (.cells #[.string p, .string q] 23)) := (Below.refl n₀ wr).alloc (Nat.le_trans hW (by have := hnx.size; omega)) _
      have hJ1 : J (zs.take k) (wr.alloc (.cells #[.string p, .string q] 23)) := hJ _ _ _ none hJs (World.grownBy_alloc wr _ none) (fun r e => by cases e)
      obtain ⟨fn, tmps, assign, body, hy, hR⟩ := hY _ ⟨p, q⟩ _ hJ1 (by rw [List.length_take]; omega)
      dsimp only at hy
      gi_wp2
      refine hR.mono ?_
      rintro e W3 (⟨rfl, hJ3, hk3⟩ | ⟨rfl, hJx3⟩)
      · gi_wp2
        go_roundw
        case rel => exact ⟨k + 1, by omega, by simp, by rw [ht]; exact hJ3, hnx.trans (hBa.trans hk3)⟩
        case measure => simp [intOf]; omega
      · gi_wp2
        refine bodyPost_ret (results_none rfl _ _ _) rfl ?_
        exact ⟨⟨_, rfl⟩, .inr ⟨_, hpre, by rw [ht]; exact hJx3⟩⟩
    · obtain rfl : k = len := by omega
      gi_wp2
      go_end0
      exact ⟨⟨_, rfl⟩, .inl ⟨_, rfl, by rwa [List.take_of_length_le (by omega)] at hJs⟩⟩

set_option maxHeartbeats 1000000 in
/-- slices.Values(l): the slice value is boxed; the function value captures the box. -/
theorem values_in (F : Fence) (n : Nat) (h5 : F.fn 28) (hro : F.round = none) (a : Option Addr) (len cap : Nat) (w : World) :
    CallsIn F n Try.prog 28 #[.slice a len cap] w fun e w' => e = .returned (.func (.func 34) #[] #[.pointer (some ⟨w.heap.size, 0, none⟩)]) ∧ w' = w.alloc (.cells #[.slice a len cap] 37) := by
  refine callsIn_of_wp Try.func28 rfl h5 ?_ hro
  simp only [Try.ntmps28, List.size_toArray, List.length_cons, List.length_nil, Nat.reduceAdd, Nat.reduceSub, Array.replicate_succ, Array.replicate_zero, List.push_toArray, List.append_toArray, List.nil_append, List.cons_append]
  gi_wp2
  go_ret
  exact ⟨rfl, rfl⟩

/-- It hands back a value that 'SeqStopsK', at 'Kp := Below n₀'. -/
theorem values_stops (F : Fence) (n : Nat) (h7 : F.fn 34) (hro : F.round = none) (hn : 1 ≤ n) (Bs n₀ len cap : Nat) (ao : Option Addr) (zs : List Nm) (hz : zs.length = len) (hreach : len ≤ 1000) (w : World) (hBs : Bs < w.heap.size) (hn₀ : n₀ ≤ w.heap.size)
    (hb : ∀ ad, ao = some ad → 0 < len → ad.block < n₀) (hc : w.cell? ⟨Bs, 0, none⟩ = some (.slice ao len cap)) (hI : GAt KN w (.slice ao len cap) zs) :
    SeqStopsK F n Try.prog 34 #[.pointer (some ⟨Bs, 0, none⟩)] (fun x : Nm => #[.agg #[.string x.ns, .string x.sa]]) (Below n₀) (fun ys => ys = zs) (fun pre => pre <+: zs) len w := fun l J Jx W hW hJ _ hY h0 =>
  values1_in F n h7 hro hn l Bs n₀ len cap ao zs hz hreach hb J Jx hY W hJ ((hW.cell (p := ⟨Bs, 0, none⟩) hBs).trans hc) (Nat.le_trans hn₀ hW.size) (hI.below hW) h0

theorem infoN : (Try.prog.info? 23).map (fun i => (i.zero, i.size, i.bytes)) = some (some (.agg #[.string ByteArray.empty, .string ByteArray.empty]), 2, 32) := by kernel_rfl
theorem cells_two_new (w : World) (x y : Value) (t : TypeId) : ∀ j u, [x, y][j]? = some u → (w.alloc (.cells #[x, y] t)).cell? ((⟨w.heap.size, 0, none⟩ : Addr).add j) = some u := by
  intro j u hj
  rw [addr_plain', cell_of_row _ w.heap.size _ _ _ _ (heap_alloc_new w _), Nat.zero_add]
  simpa using hj
theorem nbox_kept (Bx : Nat) (p q : ByteArray) : Own (fun (_ : Unit) W => NBox W Bx p q) := fun _ A B row hs hg hr => by
  refine (hg.block Bx hs.lt (fun e => ?_)).trans hs
  obtain ⟨o, h1, h2⟩ := hr Bx e.symm
  rw [show A.heap[Bx]? = _ from hs] at h1
  cases h1
  cases h2
end Go.Proofs.Ytjbfaaoeoggkpaa
