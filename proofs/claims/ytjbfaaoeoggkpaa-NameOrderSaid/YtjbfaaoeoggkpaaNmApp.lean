/- slices.AppendSeq, slices.Collect over slices.Values at names: a row of the call's own with the same names. -/
import Derived.Test.YtjbfaaoeoggkpaaNmSeq
namespace Go.Proofs.Ytjbfaaoeoggkpaa
open Go.RowKit Go.Shelf

attribute [local go_sem] Oper.semAt_some

set_option maxRecDepth 100000 in
set_option maxHeartbeats 2000000 in
theorem appseq_in (F : Fence) (n : Nat) (h38 : F.fn 38) (h34 : F.fn 34) (hro : F.round = none) (hn : 3 ≤ n) (Bs len cap : Nat) (ao : Option Addr) (zs : List Nm) (hz : zs.length = len) (hreach : len ≤ 1000) (w : World) (hBs : Bs < w.heap.size)
    (hb : ∀ ad, ao = some ad → 0 < len → ad.block < w.heap.size) (hc : w.cell? ⟨Bs, 0, none⟩ = some (.slice ao len cap)) (hI : GAt KN w (.slice ao len cap) zs) :
    CallsIn F n Try.prog 38 #[.slice none 0 0, .func (.func 34) #[] #[.pointer (some ⟨Bs, 0, none⟩)]] w fun e W' => ∃ v, e = .returned v ∧ GRow KN W' w.heap.size v zs ∧ Below w.heap.size w W' := by
  have h1 : 1 ≤ n := by omega
  obtain ⟨i0, hi, hz0, hz1, hz2⟩ := info_parts infoN
  refine callsIn_of_wp_marks Try.func38 rfl h38 ?_ hro
  simp only [Try.ntmps38, List.size_toArray, List.length_cons, List.length_nil, Nat.reduceAdd, Nat.reduceSub, Array.replicate_succ, Array.replicate_zero, List.push_toArray, List.append_toArray, List.nil_append, List.cons_append]
  gi_wp2
  have bS := Boxed.new w 37 (.slice none 0 0)
  have hB0 : Below w.heap.size w (w.alloc (.cells #[.slice none 0 0] 37)) := (Below.refl _ w).alloc (Nat.le_refl _) _
  refine wpIn_rangeFunc_ownH hro h1 (gf := 34) (lb := #[.pointer (some ⟨Bs, 0, none⟩)]) rfl h34 (enters_of Try.func34 (by kernel_rfl) rfl)
    (values_stops F (n - 1) h34 hro (by omega) Bs w.heap.size len cap ao zs hz hreach _ (by simp; omega) (by simp) hb ((hB0.cell (p := ⟨Bs, 0, none⟩) hBs).trans hc) (hI.below hB0)) belowK_t (belowK_b (by simp)) (Below.refl _ _) (fun _ => rfl)
    (fun pre W => (∃ v, Boxed W w.heap.size 37 v ∧ W.ownsRow w.heap.size 23 2 v pre.length (KN.all pre) ∧ True) ∧ Below w.heap.size w W)
    (fun _ _ _ => False)
    (OwnFrom.and (Own.from (holdsRow_own w.heap.size w.heap.size 37 23 2 (fun pre => List.length pre) (fun pre => KN.all pre) (fun _ _ => True)) _) (ownFrom_below (Nat.le_refl _) (by simp)))
    (fun _ _ _ _ _ hs _ _ => hs)
    ⟨⟨_, bS, World.ownsRow_nil _ _ _ _, trivial⟩, hB0⟩
    (fun x a' W => ∃ Bx, w.heap.size < Bx ∧ NBox W Bx x.ns x.sa ∧ a' = { tmps := #[.slice none 0 0, .func (.func 34) #[] #[.pointer (some ⟨Bs, 0, none⟩)], .pointer (some ⟨w.heap.size, 0, none⟩), undef, .slice none 0 0, .pointer (some ⟨Bx, 0, none⟩), .func (.func 34) #[] #[.pointer (some ⟨Bs, 0, none⟩)], .agg #[.string x.ns, .string x.sa], undef, undef, undef, undef, undef], defers := [] })
    (fun x a' _ X Y row hs hg hr => by obtain ⟨Bx, h1, h2, h3⟩ := hs; exact ⟨Bx, h1, nbox_kept Bx x.ns x.sa () X Y row h2 hg (fun r e => (hr r e).2), h3⟩)
    ?assign ?body ?done ?stop
  case assign =>
    rintro l pre ⟨p, q⟩ W K ⟨⟨v, hv, hrow, _⟩, hB1⟩ hK
    dsimp only
    gi_wp2
    exact hK _ _ ((KeepsOthers.alloc _ _).from _) ((Below.refl _ W).alloc hB1.size _) ⟨⟨v, hv.alloc _, hrow.alloc _, trivial⟩, hB1.alloc hB1.size _⟩ ⟨W.heap.size, hv.lt, NBox.new W p q, rfl⟩
  case body =>
    rintro l pre ⟨p, q⟩ a' W hl ⟨r, hr⟩ ⟨⟨v, hv, hrow, _⟩, hB1⟩ ⟨Bx, hBx, hX, rfl⟩ hlt
    dsimp only at hX ⊢
    have c0 := hv.cell
    have x0 := hX.c0
    have x1 := hX.c1
    have hm : (1000 : Nat) ≤ maxLen := by decide
    have hsz := hB1.size
    gi_wp2_with (gi_at_builtin; refine wpListIn_append_own _ rfl _ _ 37 rfl w.heap.size 23 i0 (.agg #[.string ByteArray.empty, .string ByteArray.empty]) 2 32 Try.underlying37 hi hz0 hz1 hz2 rfl (by decide) _ _ _ rfl (hrow.alloc _) ⟨W.heap.size, 0, none⟩ 1 1 [.string p, .string q] rfl rfl (cells_two_new _ _ _ _) (by simp [Value.oneCell']) (by omega) (by omega) (by simp; omega) ?_; intro v' w1 hown' hgrow _; obtain ⟨g', cap', rfl⟩ := ownsRow_succ hown'; obtain ⟨hv1, hv2, hr2, hk2, hb2⟩ := hv.appended (by decide) hrow hB1.size (Nat.le_refl _) hown' hgrow; have hc1 := hv1.cell; have hf1 := hv1.frozen)
    exact ⟨hk2.from _, hb2, ⟨_, hv2, by rw [List.length_append, Kd.all_append, Kd.all_one]; exact hr2, trivial⟩, hB1.trans hb2⟩
  case done =>
    rintro D ys W hD rfl ⟨⟨v, hv, hrow, _⟩, hB⟩ hK
    have hc := hv.cell
    gi_wp2
    refine ⟨by simp, .inl ⟨_, _, rfl, run_takeDeferred hK, ?_⟩⟩
    exact ⟨_, results_tmp rfl _ _ _, v, rfl, ownsRow_putObj hrow _ hK rfl, hB.trans (belowK_b (w := w) (Nat.le_refl _) W D _ _ (by simp at hD; omega) hK rfl rfl)⟩
  case stop =>
    rintro D c pre W _ _ h _
    exact h.elim

set_option maxRecDepth 100000 in
set_option maxHeartbeats 1000000 in
theorem appseq_any (Bs len cap : Nat) (ao : Option Addr) (zs : List Nm) (hz : zs.length = len) (hreach : len ≤ 1000) (w : World) (hBs : Bs < w.heap.size)
    (hc : w.cell? ⟨Bs, 0, none⟩ = some (.slice ao len cap)) (hI : GAt KN w (.slice ao len cap) zs) :
    Calls Try.prog 38 #[.slice none 0 0, .func (.func 34) #[] #[.pointer (some ⟨Bs, 0, none⟩)]] w fun e W' => ∃ v, e = .returned v ∧ GRow KN W' w.heap.size v zs ∧ Below w.heap.size w W' := by
  refine (callsIn_wide (n := 3)).1 (appseq_in _ 3 trivial trivial rfl (by omega) Bs len cap ao zs hz hreach w hBs (fun ad had h0 => ?_) hc hI)
  obtain ⟨b, o, hao, hbl, _⟩ := hI.at (k := 0) h0
  rw [had] at hao
  injection hao with hao
  subst hao
  exact hbl
theorem values_any (a : Option Addr) (len cap : Nat) (w : World) :
    Calls Try.prog 28 #[.slice a len cap] w fun e w' => e = .returned (.func (.func 34) #[] #[.pointer (some ⟨w.heap.size, 0, none⟩)]) ∧ w' = w.alloc (.cells #[.slice a len cap] 37) :=
  (callsIn_wide (n := 3)).1 (values_in _ 3 trivial rfl a len cap w)

set_option maxRecDepth 100000 in
set_option maxHeartbeats 1000000 in
theorem collect_any (Bs len cap : Nat) (ao : Option Addr) (zs : List Nm) (hz : zs.length = len) (hreach : len ≤ 1000) (w : World) (hBs : Bs < w.heap.size)
    (hc : w.cell? ⟨Bs, 0, none⟩ = some (.slice ao len cap)) (hI : GAt KN w (.slice ao len cap) zs) :
    Calls Try.prog 32 #[.func (.func 34) #[] #[.pointer (some ⟨Bs, 0, none⟩)]] w fun e W' => ∃ v, e = .returned v ∧ GRow KN W' w.heap.size v zs ∧ Below w.heap.size w W' := by
  have LA := hideL (appseq_any Bs len cap ao zs hz hreach w hBs hc hI)
  clear hc hI
  go_enter Try.func32, Try.ntmps32
  go_wp2_with (go_at_call 38; with_reducible refine (LA.out).mono ?_; rintro e w2 ⟨v, rfl, hr, hB⟩)
  go_ret
  exact ⟨v, rfl, hr, hB⟩
end Go.Proofs.Ytjbfaaoeoggkpaa
