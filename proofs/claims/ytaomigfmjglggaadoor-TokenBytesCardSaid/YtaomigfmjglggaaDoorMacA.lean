/- Package mac: Of, and what it stands on. Appending bytes that a slice reads as to a row of the call's own; over any program that has the type []byte. What the laws over parts share: rows of numbers that came in, cuts, arrays of 32 bytes that are compared. The block of a row of the call's own; an append in a region that draws its order. RowL, with what stands beside it. Package mac: Of: its contract. StrL, with what stands beside it. -/
import Derived.Test.YtaomigfmjglggaaDoorProg
import Derived.Test.YtaomigfmjglggaaDoorMacPl
import Derived.Test.YtaomigfmjglggaaDoorOf
import Derived.Test.YtaomigfmjglggaaDoorBase
import Derived.Test.YtaomigfmjglggaaDoorCat
import Derived.Maps.AppendAt
import Derived.OwnWalk
import Derived.IntWalk
import Derived.StillTailTactics
import Derived.Deep.RegionHeld3
import Derived.Deep.MidRow
import Derived.Lib.ConvBytes
import Derived.Lib.FrozenHead2
namespace Go.Proofs.YtaomigfmjglggaaDoor
open Go.RowKit

/-- The key, or its sum, where it has more than 64 bytes. -/
def keyX (k : List Int) : List Int := if 64 < k.length then sumS k else k
/-- A key's block. -/
def keyS (k : List Int) : List Int := keyX k ++ List.replicate (64 - (keyX k).length) 0
/-- The mac of bytes by a key. -/
def macS (k m : List Int) : List Int := sumS (turnB 92 (keyS k) ++ sumS (turnB 54 (keyS k) ++ m))

theorem length_sumS (X : List Int) : (sumS X).length = 32 := by rw [sumS]; exact length_outS _
theorem length_macS (k m : List Int) : (macS k m).length = 32 := by rw [macS]; exact length_sumS _
theorem length_keyX (k : List Int) : (keyX k).length ≤ 64 := by
  unfold keyX
  split
  · rw [length_sumS]; omega
  · omega
theorem length_keyS (k : List Int) : (keyS k).length = 64 := by
  have := length_keyX k
  rw [keyS, List.length_append, List.length_replicate]; omega

theorem keyS_eq (k X : List Int) (h : keyX k = X) : keyS k = X ++ zeros64.drop X.length := by
  rw [keyS, h, zeros64, List.drop_replicate]

/-- copy of bytes that a slice reads as (nil, too) to the front of a row of the call's own. -/
theorem wpList_copy_sl {P : Program} {w : World} {ops : Array Oper} {rest : List Oper} {o : Oper} {a : Act} {Q : Exit → Act → World → Prop} (hgd : o.guard = none) (d s : Operand) (dT sT : TypeId)
    (ho : o.op = .call { callee := .builtin .copy, args := #[d, s], argTypes := #[dT, sT] }) (elem : TypeId) (hu : P.underlying dT = some (.slice elem)) (hsz : (P.info? elem).map (·.size) = some 1)
    (g dLen dCap : Nat) (ao : Option Addr) (sLen sCap : Nat) (hd : a.eval d = .slice (some ⟨g, 0, none⟩) dLen dCap) (hs : a.eval s = .slice ao sLen sCap)
    (xs : List Int) (hx : SlAt w (.slice ao sLen sCap) xs) (t : TypeId) (cur : List Int) (hg : Blk w g t .u8 cur) (hc : cur.length = dLen) (hn : sLen ≤ dLen)
    (h : ∀ w', Blk w' g t .u8 (xs ++ cur.drop xs.length) → (∀ B, B ≤ g → Below B w w') → wpList P ops Q rest (a.put o.dst (.int .i64 (xs.length : Int))) w') :
    wpList P ops Q (o :: rest) a w := by
  obtain ⟨ao', cap, hv, hnil, hle, ha⟩ := hx
  simp only [Value.slice.injEq] at hv
  obtain ⟨rfl, rfl, rfl⟩ := hv
  cases hao : ao with
  | none =>
    obtain ⟨rfl, _⟩ := hnil hao
    refine wpList_copy_nothing hgd d s dT sT ho elem hu hsz _ _ dLen dCap _ _ hd hs (by simp) ?_
    exact h w (by simpa using hg) (fun _ _ => Below.refl _ _)
  | some ad =>
    subst hao
    refine wpList_copy_blk hgd d s dT sT ho elem hu hsz g 0 dLen dCap ad _ _ hd hs .u8 t cur xs hg (Nat.min_eq_left hn).symm (slAt_news ha ad rfl) (by omega) ?_
    intro w' hw' hB _
    refine h w' ?_ hB
    simpa [put] using hw'

set_option maxRecDepth 100000 in
set_option maxHeartbeats 1000000 in
theorem keyBlock_any (k : List Int) (kv : Value) (w : World) (hk : SlAt w kv k) (hl : k.length ≤ 100000) :
    Calls Tryd.prog 85 #[kv] w (fun e w' => e = .returned (.agg (cellsOf .u8 (keyS k))) ∧ Below w.heap.size w w') := by
  obtain ⟨ao, cap, rfl⟩ := hk.len
  obtain ⟨n, hn⟩ : ∃ n, n = k.length := ⟨_, rfl⟩
  have HN := hide hn
  rw [← hn] at hk hl ⊢
  have HK := hide hk
  clear hk hn
  have hal : Tryd.prog.arrayLen 122 = 64 := by kernel_rfl
  have hal2 : Tryd.prog.arrayLen 29 = 32 := by kernel_rfl
  go_enter Tryd.func85, Tryd.ntmps85
  have hb0 : Blk ((w.alloc (.cells (cellsOf .u8 zeros64) 122)).alloc (.cells (cellsOf .u8 zeros64) 122)) w.heap.size 122 .u8 zeros64 := (Blk.new w _ _ _).alloc _
  have hb1 : Blk ((w.alloc (.cells (cellsOf .u8 zeros64) 122)).alloc (.cells (cellsOf .u8 zeros64) 122)) (w.heap.size + 1) 122 .u8 zeros64 := by
    have := Blk.new (w.alloc (.cells (cellsOf .u8 zeros64) 122)) 122 .u8 zeros64
    simpa using this
  have hB0 : Below w.heap.size w ((w.alloc (.cells (cellsOf .u8 zeros64) 122)).alloc (.cells (cellsOf .u8 zeros64) 122)) := ((Below.refl _ _).alloc (Nat.le_refl _) _).alloc (by simp) _
  have HK1 := hide (HK.out.below hB0)
  by_cases hbig : 64 < n
  · have hX : keyX k = sumS k := by rw [keyX, if_pos (by rw [← HN.out]; exact hbig)]
    go_wp2_with (first | (with_reducible refine wpList_alloc_row rfl 122 rfl (cellsOf .u8 zeros64) zeroK ?_))
    have HP := hide (of_any [k] (w.heap.size + 1 + 1) 0 1 _ (parts_one ((cell_of_row _ _ 0 _ _ _ (heap3_2 w (.cells (cellsOf .u8 zeros64) 122) (.cells (cellsOf .u8 zeros64) 122) (.cells #[.slice ao n cap] 22))).trans rfl) (by simp) (HK1.out.below (Below.alloc (Below.refl _ _) (Nat.le_refl _) _))) (by simp) (by simp) (by simp; have := HN.out; omega))
    refine HP.out.mono ?_
    rw [show [k].flatten = k from by simp]
    rintro e w1 ⟨rfl, hB1⟩
    have hb0' := blk_through hB1 (hb0.alloc _)
    have hb1' := blk_through hB1 (hb1.alloc _)
    have hB1' := below_through hB1 (hB0.alloc hB0.size _)
    clear hB1 hb0 hb1 hB0 HP HK1
    have hl32 : Hid ((sumS k).length = 32) := hide (length_sumS k)
    obtain ⟨X, hXX⟩ : ∃ X, X = sumS k := ⟨_, rfl⟩
    rw [← hXX] at hl32 hX ⊢
    have HKS := hide (keyS_eq k X hX)
    have HL := hide (length_keyS k)
    rw [HKS.out] at HL
    clear hX HK HN hXX
    go_wp2_with (first
      | (with_reducible refine wpList_alloc_row rfl 29 rfl (cellsOf .u8 zeros32) zero36 ?_)
      | (with_reducible refine wpList_store_row rfl 29 (.tmp 4) (.tmp 10) rfl w1.heap.size (cellsOf .u8 X) rfl rfl _ _ (heap_alloc_new _ _) (sz36 X hl32.out) (szZ32 X hl32.out) (oneCell_cellsOf _ _) ?_)
      | (refine wpList_copy_sl rfl (.tmp 12) (.tmp 13) 22 22 rfl 5 Tryd.underlying22 size5 (w.heap.size + 1) 64 64 (some ⟨w1.heap.size, 0, none⟩) 32 32 rfl rfl X (slAt_blkN ((Blk.new w1 29 .u8 zeros32).setRow X) hl32.out) 122 zeros64 ((hb1'.alloc _).rowOther _ _ (Nat.ne_of_lt hb1'.lt)) rfl (by omega) ?_))
    intro w2 hw2 hB2
    have hb3 := ((hb0'.alloc (.cells (cellsOf .u8 zeros32) 29)).rowOther w1.heap.size (cellsOf .u8 X) (Nat.ne_of_lt hb0'.lt)).below (hB2 (w.heap.size + 1) (Nat.le_refl _)) (by omega)
    have hB3 : Below w.heap.size w ((w1.alloc (.cells (cellsOf .u8 zeros32) 29)).setRow w1.heap.size (cellsOf .u8 X)) := below_setRow (hB1'.alloc hB1'.size _) hB1'.size _
    clear hb0' hb1' hB1'
    obtain ⟨L, hL⟩ : ∃ L, L = X ++ zeros64.drop X.length := ⟨_, rfl⟩
    rw [← hL] at HL HKS hw2
    clear hL
    go_wp2_with (first
      | (with_reducible refine wpList_load_row rfl 122 (.tmp 3) rfl (w.heap.size + 1) rfl _ _ (0, 0) _ hw2.row Tryd.underlying122 rfl (szK L HL.out) ?_)
      | (with_reducible refine wpList_store_row rfl 122 (.tmp 2) (.tmp 15) rfl w.heap.size _ rfl rfl _ _ hb3.row (szK L HL.out) (szZK L HL.out) (oneCell_cellsOf _ _) ?_))
    refine bodyPost_ret (v := .agg (cellsOf .u8 L)) (results_cell_row rfl _ _ w.heap.size _ _ (0, 0) _ rfl (hb3.setRow L).row Tryd.underlying122 rfl (szK L HL.out)) rfl ?_
    exact ⟨by rw [HKS.out], below_setRow (hB3.trans (hB2 w.heap.size (by omega))) (Nat.le_refl _) _⟩
  · have hX : keyX k = k := by rw [keyX, if_neg (by rw [← HN.out]; exact hbig)]
    go_wp2_with (first
      | (with_reducible refine wpList_alloc_row rfl 122 rfl (cellsOf .u8 zeros64) zeroK ?_)
      | (refine wpList_copy_sl rfl (.tmp 12) (.tmp 13) 22 22 rfl 5 Tryd.underlying22 size5 (w.heap.size + 1) 64 64 ao n cap rfl rfl k HK1.out 122 zeros64 hb1 rfl (by omega) ?_))
    intro w2 hw2 hB2
    have hb3 := hb0.below (hB2 (w.heap.size + 1) (Nat.le_refl _)) (by omega)
    have HKS := hide (keyS_eq k k hX)
    have HL := hide (length_keyS k)
    rw [HKS.out] at HL
    clear hb0 hb1 HK HK1 HN hX
    obtain ⟨L, hL⟩ : ∃ L, L = k ++ zeros64.drop k.length := ⟨_, rfl⟩
    rw [← hL] at HL HKS hw2
    clear hL
    go_wp2_with (first
      | (with_reducible refine wpList_load_row rfl 122 (.tmp 3) rfl (w.heap.size + 1) rfl _ _ (0, 0) _ hw2.row Tryd.underlying122 rfl (szK L HL.out) ?_)
      | (with_reducible refine wpList_store_row rfl 122 (.tmp 2) (.tmp 15) rfl w.heap.size _ rfl rfl _ _ hb3.row (szK L HL.out) (szZK L HL.out) (oneCell_cellsOf _ _) ?_))
    refine bodyPost_ret (v := .agg (cellsOf .u8 L)) (results_cell_row rfl _ _ w.heap.size _ _ (0, 0) _ rfl (hb3.setRow L).row Tryd.underlying122 rfl (szK L HL.out)) rfl ?_
    exact ⟨by rw [HKS.out], below_setRow (hB0.trans (hB2 w.heap.size (by omega))) (Nat.le_refl _) _⟩

/-- append of parts to a row of one part that the call has built. -/
theorem append_parts (w : World) (s : Value) (x : List Int) (ps : List (List Int)) (b o n c : Nat) (hs : SlAt w s x) (hP : PartsAt w b o ps) (hn : n = ps.length) (hm : n ≤ 100000) :
    ∃ g cap w', (Builtin.append_ #[98, 98] 98 #[.slice (some ⟨w.heap.size, 0, none⟩) 1 1, .slice (some ⟨b, o, none⟩) n c]).run Tryd.prog (w.alloc (.cells #[s] 22)) = .ok (.slice (some ⟨g, 0, none⟩) (1 + n) cap) w' ∧
      PartsAt w' g 0 (x :: ps) ∧ 1 + n ≤ cap ∧ Below w.heap.size w w' := by
  obtain ⟨i0, hi, hz0, hz1, hz2⟩ := info_parts Tryd.info28
  obtain ⟨vs, hvl, hvs⟩ := parts_vals hP
  have hB0 : Below w.heap.size w (w.alloc (.cells #[s] 22)) := (Below.refl _ _).alloc (Nat.le_refl _) _
  have hown : (w.alloc (.cells #[s] 22)).ownsRow w.heap.size 22 1 (.slice (some ⟨w.heap.size, 0, none⟩) 1 1) 1 [s] :=
    ⟨rfl, .inr ⟨w.heap.size, 1, #[s], rfl, Nat.le_refl _, heap_alloc_new _ _, Nat.le_refl _, by unfold maxLen; omega, rfl, rfl⟩⟩
  have hsrc : ∀ j u, vs[j]? = some u → (w.alloc (.cells #[s] 22)).cell? ((⟨b, o, none⟩ : Addr).add j) = some u := by
    intro j u hu
    have hil : j < ps.length := by
      rcases Nat.lt_or_ge j ps.length with h | h
      · exact h
      · rw [List.getElem?_eq_none (by omega)] at hu; cases hu
    obtain ⟨sv, h1, h2, _⟩ := hvs j hil
    have hu2 : some sv = some u := h1.symm.trans hu
    cases hu2
    rw [addr_plain]
    exact (hB0.cell (p := ⟨b, o + j, none⟩) hP.1).trans h2
  have hone : ∀ u ∈ vs, u.oneCell' = true := by
    intro u hu
    obtain ⟨j, hj, hju⟩ := List.mem_iff_getElem.1 hu
    obtain ⟨sv, h1, _, h3⟩ := hvs j (by omega)
    rw [List.getElem?_eq_getElem hj] at h1
    cases h1
    rw [← hju]
    exact h3.one
  obtain ⟨v', w', a1, a2, a3, a4, a5⟩ := run_append_own_at (P := Tryd.prog) _ w.heap.size 98 98 22 i0 (.slice none 0 0) 1 24 Tryd.underlying98 hi hz0 hz1 hz2 rfl (by omega) _ 1 [s] hown ⟨b, o, none⟩ n c vs (by omega) hsrc hone (by unfold maxLen; omega) (by omega) (by simp)
  have hB : Below w.heap.size w w' := hB0.grown a3 (by simp) (fun k e => by simp [Value.ownBlock] at e; omega)
  rcases a2.2 with ⟨e, _⟩ | ⟨g, cap, cur, e, hg, hcur, hcap, _⟩
  · exact absurd (a4.1 e).1 (by simp)
  · subst e
    refine ⟨g, cap, w', a1, ⟨(Array.getElem?_eq_some_iff.1 hcur).1, fun i hi' => ?_⟩, hcap, hB⟩
    have hcell : w'.cell? ⟨g, 0 + i, none⟩ = ([s] ++ vs)[i]? := by
      have := a2.cellAt i (by simp at hi'; omega)
      rw [Nat.zero_add]
      exact this
    cases i with
    | zero => exact ⟨s, hcell, hs.below hB⟩
    | succ j =>
      have hj : j < ps.length := by simpa using hi'
      obtain ⟨sv, h1, h2, h3⟩ := hvs j hj
      refine ⟨sv, hcell.trans ?_, ?_⟩
      · simpa using h1
      · exact h3.below hB

set_option maxRecDepth 100000 in
set_option maxHeartbeats 1000000 in
theorem turner_any (k : List Int) (kv : Value) (w : World) (hk : SlAt w kv k) (hl : k.length ≤ 100000) :
    Calls Tryd.prog 70 #[kv] w (fun e w' => ∃ g, e = .returned (.func (.func 86) #[] #[.pointer (some ⟨g, 0, none⟩)]) ∧ Blk w' g 122 .u8 (keyS k) ∧ Below w.heap.size w w') := by
  have HC := hide (keyBlock_any k kv w hk hl)
  have hL : Hid ((keyS k).length = 64) := hide (length_keyS k)
  generalize keyS k = L at HC hL ⊢
  obtain ⟨ao, cap, rfl⟩ := hk.len
  clear hk
  go_enter Tryd.func70, Tryd.ntmps70
  go_wp2_with fail
  refine HC.out.mono ?_
  rintro e w1 ⟨rfl, hB1⟩
  clear HC
  go_wp2_with (first
    | (with_reducible refine wpList_alloc_row rfl 122 rfl (cellsOf .u8 zeros64) zeroK ?_)
    | (with_reducible refine wpList_store_row rfl 122 (.tmp 3) (.tmp 5) rfl w1.heap.size (cellsOf .u8 L) rfl rfl _ _ (heap_alloc_new _ _) (szK L hL.out) (szZK L hL.out) (oneCell_cellsOf _ _) ?_))
  go_ret
  exact ⟨_, rfl, (Blk.new w1 122 .u8 zeros64).setRow L, below_setRow (hB1.alloc hB1.size _) hB1.size _⟩
end Go.Proofs.YtaomigfmjglggaaDoor
namespace Go.Proofs.YtaomigfmjglggaaDoor
open Go.RowKit



theorem endS_bytes (n : Nat) : ∀ x ∈ endS n, 0 ≤ x ∧ x < 256 := by
  intro x hx
  simp [endS, endP, lenBytes] at hx
  rcases hx with rfl | ⟨_, rfl⟩ | ⟨k, _, rfl⟩
  · omega
  · omega
  · exact lenByte_range n k
end Go.Proofs.YtaomigfmjglggaaDoor
namespace Go.Proofs.YtaomigfmjglggaaDoor
open Go.RowKit

/-- The slice value v reads as the ints xs. -/
def IsAt (w : World) (v : Value) (xs : List Int) : Prop := ∃ (ao : Option Addr) (cap : Nat), v = .slice ao xs.length cap ∧ (ao = none → xs = []) ∧
  ∀ ad, ao = some ad → ∀ i, i < xs.length → ad.spot = none ∧ ad.block < w.heap.size ∧ w.cell? (ad.add i) = some (.int .i64 (nth xs i))

theorem IsAt.below {w w' : World} {v : Value} {xs : List Int} (h : IsAt w v xs) (hb : Below w.heap.size w w') : IsAt w' v xs := by
  obtain ⟨ao, cap, hv, hn, ha⟩ := h
  refine ⟨ao, cap, hv, hn, fun ad had i hi => ?_⟩
  obtain ⟨h0, h1, h2⟩ := ha ad had i hi
  refine ⟨h0, Nat.lt_of_lt_of_le h1 hb.size, (hb.cell (p := ad.add i) ?_).trans h2⟩
  unfold Addr.add
  split <;> exact h1

theorem IsAt.cell {w : World} {ao : Option Addr} {n c : Nat} {xs : List Int} (h : IsAt w (.slice ao n c) xs) {i : Nat} (hi : i < n) : ∃ ad, ao = some ad ∧ ad.spot = none ∧ w.cell? (ad.add i) = some (.int .i64 (nth xs i)) := by
  obtain ⟨ao', cap, hv, hn, ha⟩ := h
  simp at hv
  obtain ⟨rfl, rfl, rfl⟩ := hv
  cases hao : ao with
  | none => rw [hn hao] at hi; simp at hi
  | some ad => obtain ⟨h0, _, h2⟩ := ha ad hao i hi; exact ⟨ad, rfl, h0, h2⟩

theorem IsAt.len {w : World} {v : Value} {xs : List Int} (h : IsAt w v xs) : ∃ ao cap, v = .slice ao xs.length cap := by
  obtain ⟨ao, cap, hv, _⟩ := h
  exact ⟨ao, cap, hv⟩


theorem parts_four {w : World} {t : TypeId} {s0 s1 s2 s3 : Value} {x0 x1 x2 x3 : List Int} (a0 : SlAt w s0 x0) (a1 : SlAt w s1 x1) (a2 : SlAt w s2 x2) (a3 : SlAt w s3 x3) : PartsAt (w.alloc (.cells #[s0, s1, s2, s3] t)) w.heap.size 0 [x0, x1, x2, x3] := by
  have hB : Below w.heap.size w (w.alloc (.cells #[s0, s1, s2, s3] t)) := (Below.refl _ _).alloc (Nat.le_refl _) _
  refine ⟨by simp, fun i hi => ?_⟩
  have hc : ∀ j v, (#[s0, s1, s2, s3] : Array Value)[j]? = some v → (w.alloc (.cells #[s0, s1, s2, s3] t)).cell? ⟨w.heap.size, 0 + j, none⟩ = some v := fun j v hv => by
    rw [Nat.zero_add]; exact (cell_of_row _ _ j _ _ _ (heap_alloc_new _ _)).trans hv
  have h : i = 0 ∨ i = 1 ∨ i = 2 ∨ i = 3 := by simp at hi; omega
  rcases h with rfl | rfl | rfl | rfl
  · exact ⟨s0, hc 0 _ rfl, a0.below hB⟩
  · exact ⟨s1, hc 1 _ rfl, a1.below hB⟩
  · exact ⟨s2, hc 2 _ rfl, a2.below hB⟩
  · exact ⟨s3, hc 3 _ rfl, a3.below hB⟩

theorem four_flat (xs : List Int) (k a : Nat) (h : k ≤ a) : [xs.take k, [], (xs.drop k).take (a - k), xs.drop a].flatten = xs := by
  simp only [List.flatten_cons, List.flatten_nil, List.append_nil, List.nil_append]
  rw [← List.append_assoc, ← List.take_add, show k + (a - k) = a by omega, List.take_append_drop]

theorem blk_range {w : World} {g : Nat} {t : TypeId} {k : IntKind} {l : List Int} (h : Blk w g t k l) : w.rangeAt g 0 (l.map (Value.int k)) := fun j v hv => by
  have hj : j < l.length := by
    rcases Nat.lt_or_ge j l.length with h | h
    · exact h
    · simp [h] at hv
  rw [Nat.zero_add, h.cell j hj]
  simp [hj] at hv
  simp [nth, List.getD, hj, hv]

theorem eq36 (C : List Value) (T : List Int) (hC : C = T.map (Value.int .u8)) (hT : T.length = 32) (w : World) : (Op.equalIn 10000 29 (.agg C.toArray) (.agg C.toArray)).run Tryd.prog w = .ok true w := by
  have h := run_equalIn_cells (P := Tryd.prog) 9998 29 5 32 .u8 Tryd.underlying29 Tryd.underlying5 size5 T T hT hT w
  rw [beq_self_eq_true] at h
  rw [hC]
  exact h

theorem clamp (c : Int) (n a : Nat) (h : a ≤ n) : ∃ m : Nat, a + m ≤ n ∧ (if (if 0 < c then c else 0) < (n : Int) - (a : Int) then (if 0 < c then c else 0) else (n : Int) - (a : Int)) = (m : Int) := by
  refine ⟨(if (if 0 < c then c else 0) < (n : Int) - (a : Int) then (if 0 < c then c else 0) else (n : Int) - (a : Int)).toNat, ?_, ?_⟩ <;> (repeat' split) <;> omega

theorem under36 : Tryd.prog.underlying 29 = some (.array 32 5) := Tryd.underlying29



/-- The bytes of a sum are bytes. -/
theorem bytesTo_range (sv : List Int) : ∀ m, ∀ x ∈ bytesTo sv m, 0 ≤ x ∧ x < 256
  | 0, x, h => by
    rw [bytesTo, zeros32] at h
    have := (List.mem_replicate.1 h).2
    omega
  | m + 1, x, h => by
    rw [bytesTo] at h
    rcases List.mem_or_eq_of_mem_set h with h | h
    · exact bytesTo_range sv m x h
    · rw [h, byteOf]; omega
theorem sumS_range (X : List Int) : ∀ x ∈ sumS X, 0 ≤ x ∧ x < 256 := by rw [sumS, outS]; exact bytesTo_range _ _


theorem zl32 {X : List Int} (h : X.length = 32) : zeros32.length = X.length := h.symm
end Go.Proofs.YtaomigfmjglggaaDoor
namespace Go.Proofs.YtaomigfmjglggaaDoor
open Go.RowKit




end Go.Proofs.YtaomigfmjglggaaDoor

namespace Go.Proofs.YtaomigfmjglggaaDoor
open Go.RowKit

set_option maxRecDepth 100000 in
set_option maxHeartbeats 1000000 in
theorem macOf_any (k : List Int) (kv : Value) (ps : List (List Int)) (b o c : Nat) (w : World) (hk : SlAt w kv k) (hl : k.length ≤ 100000) (hP : PartsAt w b o ps) (hn : ps.length ≤ 1000) (_hnc : ps.length ≤ c) (hX : ps.flatten.length ≤ 1000000) :
    Calls Tryd.prog 48 #[kv, .slice (some ⟨b, o, none⟩) ps.length c] w (fun e w' => e = .returned (.agg (cellsOf .u8 (macS k ps.flatten))) ∧ Below w.heap.size w w') := by
  have hal : Tryd.prog.arrayLen 29 = 32 := by kernel_rfl
  have HK := hide (length_keyS k)
  have hB0 : Below w.heap.size w (w.alloc (.cells (cellsOf .u8 zeros32) 29)) := (Below.refl _ _).alloc (Nat.le_refl _) _
  have HT := hide (turner_any k kv _ (hk.below hB0) hl)
  have HM : Hid (macS k ps.flatten = sumS (turnB 92 (keyS k) ++ sumS (turnB 54 (keyS k) ++ ps.flatten))) := hide rfl
  have HR := hide (length_macS k ps.flatten)
  generalize macS k ps.flatten = R at HM HR ⊢
  generalize keyS k = L at HK HT HM
  obtain ⟨n, hnn⟩ : ∃ n, n = ps.length := ⟨_, rfl⟩
  have HN := hide hnn
  rw [← hnn] at hn ⊢
  obtain ⟨ao, cap, rfl⟩ := hk.len
  have HP := hide hP
  clear hk hP hnn
  go_enter Tryd.func48, Tryd.ntmps48
  go_wp2_with (first | (with_reducible refine wpList_alloc_row rfl 29 rfl (cellsOf .u8 zeros32) zero36 ?_))
  refine HT.out.mono ?_
  rintro e w1 ⟨g, rfl, hg1, hB1'⟩
  have hb1 : Blk w1 w.heap.size 29 .u8 zeros32 := blk_through hB1' (Blk.new _ _ _ _)
  have hB1 := below_through hB1' hB0
  clear hB1' HT hB0
  go_wp2_with fail
  refine (turnKey_any 54 g L w1 hg1 HK).mono ?_
  rintro e w2 ⟨g2, rfl, hs2, hB2'⟩
  have hg2 := blk_through hB2' hg1
  have hb2 := blk_through hB2' hb1
  have hB2 := below_through hB2' hB1
  clear hB2' hg1 hb1 hB1
  obtain ⟨g3, c3, w3, hrun, hpa, hc3, hB3'⟩ := append_parts w2 (.slice (some ⟨g2, 0, none⟩) 64 64) (turnB 54 L) ps b o n c hs2 (HP.out.below hB2) HN.out (by omega)
  have hg3 := blk_through hB3' hg2
  have hb3 := blk_through hB3' hb2
  have hB3 := below_through hB3' hB2
  have hlen : (turnB 54 L :: ps).length = 1 + n := by rw [List.length_cons, ← HN.out]; omega
  have hfl : (turnB 54 L :: ps).flatten = turnB 54 L ++ ps.flatten := rfl
  have hof := of_any (turnB 54 L :: ps) g3 0 c3 w3 hpa (by rw [hlen]; omega) (by rw [hlen]; exact hc3) (by rw [hfl, List.length_append, length_turnB, HK.out]; omega)
  rw [hlen, hfl] at hof
  have HOF := hide hof
  have HG3 := hide hg3
  have Hb3 := hide hb3
  have HB3 := hide hB3
  clear hs2 hg2 hb2 hB2 hof hlen hfl hpa hc3 hB3' hg3 hb3 hB3
  go_wp2_with (first | (at_builtin; refine wpList_append_run rfl (.tmp 11) (.tmp 12) 98 98 98 rfl rfl _ _ _ w3 rfl rfl hrun ?_))
  refine HOF.out.mono ?_
  rintro e w4 ⟨rfl, hB4'⟩
  have HG4 := hide (blk_through hB4' HG3.out)
  have Hb4 := hide (blk_through hB4' Hb3.out)
  have HB4 := hide (below_through hB4' HB3.out)
  have hl32 : Hid ((sumS (turnB 54 L ++ ps.flatten)).length = 32) := hide (length_sumS _)
  generalize sumS (turnB 54 L ++ ps.flatten) = Y at hl32 HM
  clear hB4' HG3 Hb3 HB3 HOF hrun
  go_wp2_with (first
    | (with_reducible refine wpList_alloc_row rfl 29 rfl (cellsOf .u8 zeros32) zero36 ?_)
    | (with_reducible refine wpList_store_row rfl 29 (.tmp 6) (.tmp 14) rfl w4.heap.size (cellsOf .u8 Y) rfl rfl _ _ (heap_alloc_new _ _) (sz36 Y hl32.out) (szZ32 Y hl32.out) (oneCell_cellsOf _ _) ?_))
  simp only [Act.put, List.setIfInBounds_toArray, List.set_cons_zero, List.set_cons_succ]
  obtain ⟨w5, hw5⟩ : ∃ w5, w5 = (w4.alloc (.cells (cellsOf .u8 zeros32) 29)).setRow w4.heap.size (cellsOf .u8 Y) := ⟨_, rfl⟩
  have HG5 := hide ((HG4.out.alloc (.cells (cellsOf .u8 zeros32) 29)).rowOther w4.heap.size (cellsOf .u8 Y) (Nat.ne_of_lt HG4.out.lt))
  have Hb5 := hide ((Hb4.out.alloc (.cells (cellsOf .u8 zeros32) 29)).rowOther w4.heap.size (cellsOf .u8 Y) (Nat.ne_of_lt Hb4.out.lt))
  have HB5 := hide (below_setRow (HB4.out.alloc HB4.out.size (.cells (cellsOf .u8 zeros32) 29)) HB4.out.size (cellsOf .u8 Y))
  have HY5 := hide ((Blk.new w4 29 .u8 zeros32).setRow Y)
  rw [← hw5] at HG5 Hb5 HB5 HY5 ⊢
  generalize w4.heap.size = g6 at HY5 ⊢
  clear hw5 HG4 Hb4 HB4 HN HP hn hX hl
  generalize Value.slice (some ⟨w2.heap.size, 0, none⟩) 1 1 = d1
  generalize Value.slice (some ⟨g3, 0, none⟩) (1 + n) c3 = d2
  generalize Value.slice (some ⟨g2, 0, none⟩) 64 64 = d3
  refine wp_region_held_drew (S := fun _ => True) (by kernel_rfl) trivial (fun hHeld => ?_)
  refine wpAnyH_take (i := 0) (oi := { dst := some 15, op := Op.move (Operand.tmp 5), type := 99, pos := "mac.go:19", after := #[], guard := none }) (v := ?_) rfl (by kernel_rfl) (by kernel_rfl) (by kernel_rfl) (fun _ _ _ h => h) (Or.inl ⟨by rfl, ?_⟩) hHeld ?_
  rotate_left
  · intro w hSw; (try dsimp only at hSw); go_simp; first | done | with_reducible rfl
  try simp only [Act.put, List.setIfInBounds_toArray, List.set_cons_zero, List.set_cons_succ]
  refine wpAnyH_take (i := 2) (oi := { dst := some 17, op := Op.slice 29 (Operand.tmp 6) none none none, type := 22, pos := "mac.go:19", after := #[], guard := none }) (v := ?_) rfl (by kernel_rfl) (by kernel_rfl) (by kernel_rfl) (fun _ _ _ h => h) (Or.inl ⟨by rfl, ?_⟩) hHeld ?_
  rotate_left
  · intro w hSw; (try dsimp only at hSw); go_simp; first | done | with_reducible rfl
  try simp only [Act.put, List.setIfInBounds_toArray, List.set_cons_zero, List.set_cons_succ]
  refine wpAnyH_ready (rs := [1]) (by kernel_rfl) (by simp) ?_
  refine AllReadyH.cons (o := { dst := some 16, op := Op.call { callee := Callee.value (Operand.tmp 15), args := #[Operand.const (Value.int IntKind.u8 92)], argTypes := #[5] }, type := 22, pos := "mac.go:19", after := #[{ on := 0, ground := Ground.data }], guard := none }) rfl (fun K hK => ?_) AllReadyH.nil
  clear hHeld
  go_simp
  refine (turnKey_any 92 g L _ HG5.out.drew HK).mono ?_
  rintro e w6 ⟨g7, rfl, hs6, hBX⟩
  have Hb6 := hide (blk_through hBX Hb5.out.drew)
  have HB6 := hide (below_through hBX HB5.out.drew)
  have HY6 := hide (blk_through hBX HY5.out.drew)
  have HS6 := hide hs6
  clear hBX HG5 Hb5 HB5 HY5 hs6
  dsimp only
  refine hK.out _ _ (trivial) (fun hHeld => ?_)
  clear hK K
  try simp only [Act.put, List.setIfInBounds_toArray, List.set_cons_zero, List.set_cons_succ]
  refine wpAnyH_ready (rs := [3]) (by kernel_rfl) (by simp) ?_
  refine AllReadyH.cons (o := { dst := some 18, op := Op.buildSlice 98 2 #[(0, Operand.tmp 16), (1, Operand.tmp 17)], type := 98, pos := "mac.go:19", after := #[{ on := 1, ground := Ground.data }, { on := 2, ground := Ground.data }], guard := none }) rfl (fun K hK => ?_) AllReadyH.nil
  clear hHeld
  go_simp
  refine hK.out _ _ (trivial) (fun hHeld => ?_)
  clear hK K
  try simp only [Act.put, List.setIfInBounds_toArray, List.set_cons_zero, List.set_cons_succ]
  refine wpAnyH_ready (rs := [4]) (by kernel_rfl) (by simp) ?_
  refine AllReadyH.cons (o := { dst := some 19, op := Op.call { callee := Callee.value (Operand.func 71), args := #[Operand.tmp 18], argTypes := #[98] }, type := 29, pos := "mac.go:19", after := #[{ on := 3, ground := Ground.data }, { on := 1, ground := Ground.chain }], guard := none }) rfl (fun K hK => ?_) AllReadyH.nil
  clear hHeld
  go_simp
  have hP6 := parts_built (t := 22) (w := w6) rfl HS6.out (slAt_blkN HY6.out hl32.out)
  have hof := of_any [turnB 92 L, Y] w6.heap.size 0 2 _ hP6 (by simp) (by simp) (by simp [length_turnB, HK.out, hl32.out])
  rw [show [turnB 92 L, Y].flatten = turnB 92 L ++ Y from by simp, ← HM.out] at hof
  refine hof.mono ?_
  rintro e w7 ⟨rfl, hBX⟩
  have Hb7 := hide (blk_through hBX (Hb6.out.alloc _))
  have HB7 := hide (below_through hBX (HB6.out.alloc HB6.out.size _))
  clear hBX hof hP6 HY6 HS6
  dsimp only
  refine hK.out _ _ (trivial) (fun hHeld => ?_)
  clear hK K
  try simp only [Act.put, List.setIfInBounds_toArray, List.set_cons_zero, List.set_cons_succ]
  refine wpAnyH_ready (rs := [5]) (by kernel_rfl) (by simp) ?_
  refine AllReadyH.cons (o := { dst := none, op := Op.store 29 (Operand.tmp 4) (Operand.tmp 19), type := 0, pos := "mac.go:19", after := #[{ on := 4, ground := Ground.data }, { on := 4, ground := Ground.chain }, { on := 0, ground := Ground.phase }, { on := 1, ground := Ground.phase }, { on := 2, ground := Ground.phase }, { on := 3, ground := Ground.phase }, { on := 4, ground := Ground.phase }], guard := none }) rfl (fun K hK => ?_) AllReadyH.nil
  clear hHeld
  rw [if_pos (by rfl)]
  refine wp_store_row _ _ _ rfl w.heap.size (cellsOf .u8 R) rfl rfl _ _ Hb7.out.row (sz36 _ HR.out) (szZ32 _ HR.out) (oneCell_cellsOf _ _) ?_
  refine hK.out _ _ (trivial) (fun hHeld => ?_)
  clear hK K
  try simp only [Act.put]
  refine wpAnyH_done (by kernel_rfl) ?_ _
  go_wp2_with fail
  refine bodyPost_ret (v := .agg (cellsOf .u8 R)) (results_cell_row rfl _ _ w.heap.size _ _ (0, 0) _ rfl (Hb7.out.setRow R).row Tryd.underlying29 rfl (sz36 _ HR.out)) rfl ?_
  exact ⟨rfl, below_setRow HB7.out (Nat.le_refl _) _⟩
end Go.Proofs.YtaomigfmjglggaaDoor

