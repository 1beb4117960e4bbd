/- Package mac: Of, and what it stands on. -/
import Derived.Test.YtjfidelegmjnkaaProg
import Derived.Test.YtjfidelegmjnkaaMacPl
import Derived.Test.YtjfidelegmjnkaaOf
namespace Go.Proofs.Ytjfidelegmjnkaa
open Go.RowKit

/-- The key, or its sum, where it has more than 64 bytes. -/
def keyX (k : List Int) : List Int := if 64 < k.length then sumS k else k
/-- A key's block. -/
def keyS (k : List Int) : List Int := keyX k ++ List.replicate (64 - (keyX k).length) 0
/-- The mac of bytes by a key. -/
def macS (k m : List Int) : List Int := sumS (turnB 92 (keyS k) ++ sumS (turnB 54 (keyS k) ++ m))

theorem length_sumS (X : List Int) : (sumS X).length = 32 := by rw [sumS]; exact length_outS _
theorem length_macS (k m : List Int) : (macS k m).length = 32 := by rw [macS]; exact length_sumS _
theorem length_keyX (k : List Int) : (keyX k).length ≤ 64 := by
  unfold keyX
  split
  · rw [length_sumS]; omega
  · omega
theorem length_keyS (k : List Int) : (keyS k).length = 64 := by
  have := length_keyX k
  rw [keyS, List.length_append, List.length_replicate]; omega

theorem keyS_eq (k X : List Int) (h : keyX k = X) : keyS k = X ++ zeros64.drop X.length := by
  rw [keyS, h, zeros64, List.drop_replicate]

/-- copy of bytes that a slice reads as (nil, too) to the front of a row of the call's own. -/
theorem wpList_copy_sl {P : Program} {w : World} {ops : Array Oper} {rest : List Oper} {o : Oper} {a : Act} {Q : Exit → Act → World → Prop} (hgd : o.guard = none) (d s : Operand) (dT sT : TypeId)
    (ho : o.op = .call { callee := .builtin .copy, args := #[d, s], argTypes := #[dT, sT] }) (elem : TypeId) (hu : P.underlying dT = some (.slice elem)) (hsz : (P.info? elem).map (·.size) = some 1)
    (g dLen dCap : Nat) (ao : Option Addr) (sLen sCap : Nat) (hd : a.eval d = .slice (some ⟨g, 0, none⟩) dLen dCap) (hs : a.eval s = .slice ao sLen sCap)
    (xs : List Int) (hx : SlAt w (.slice ao sLen sCap) xs) (t : TypeId) (cur : List Int) (hg : Blk w g t .u8 cur) (hc : cur.length = dLen) (hn : sLen ≤ dLen)
    (h : ∀ w', Blk w' g t .u8 (xs ++ cur.drop xs.length) → (∀ B, B ≤ g → Below B w w') → wpList P ops Q rest (a.put o.dst (.int .i64 (xs.length : Int))) w') :
    wpList P ops Q (o :: rest) a w := by
  obtain ⟨ao', cap, hv, hnil, hle, ha⟩ := hx
  simp only [Value.slice.injEq] at hv
  obtain ⟨rfl, rfl, rfl⟩ := hv
  cases hao : ao with
  | none =>
    obtain ⟨rfl, _⟩ := hnil hao
    refine wpList_copy_nothing hgd d s dT sT ho elem hu hsz _ _ dLen dCap _ _ hd hs (by simp) ?_
    exact h w (by simpa using hg) (fun _ _ => Below.refl _ _)
  | some ad =>
    subst hao
    refine wpList_copy_blk hgd d s dT sT ho elem hu hsz g 0 dLen dCap ad _ _ hd hs .u8 t cur xs hg (Nat.min_eq_left hn).symm (slAt_news ha ad rfl) (by omega) ?_
    intro w' hw' hB _
    refine h w' ?_ hB
    simpa [put] using hw'

set_option maxRecDepth 100000 in
set_option maxHeartbeats 1000000 in
theorem keyBlock_any (k : List Int) (kv : Value) (w : World) (hk : SlAt w kv k) (hl : k.length ≤ 100000) :
    Calls Try.prog 25 #[kv] w (fun e w' => e = .returned (.agg (cellsOf .u8 (keyS k))) ∧ Below w.heap.size w w') := by
  obtain ⟨ao, cap, rfl⟩ := hk.len
  obtain ⟨n, hn⟩ : ∃ n, n = k.length := ⟨_, rfl⟩
  have HN := hide hn
  rw [← hn] at hk hl ⊢
  have HK := hide hk
  clear hk hn
  have hal : Try.prog.arrayLen 50 = 64 := by kernel_rfl
  have hal2 : Try.prog.arrayLen 25 = 32 := by kernel_rfl
  go_enter Try.func25, Try.ntmps25
  have hb0 : Blk ((w.alloc (.cells (cellsOf .u8 zeros64) 50)).alloc (.cells (cellsOf .u8 zeros64) 50)) w.heap.size 50 .u8 zeros64 := (Blk.new w _ _ _).alloc _
  have hb1 : Blk ((w.alloc (.cells (cellsOf .u8 zeros64) 50)).alloc (.cells (cellsOf .u8 zeros64) 50)) (w.heap.size + 1) 50 .u8 zeros64 := by
    have := Blk.new (w.alloc (.cells (cellsOf .u8 zeros64) 50)) 50 .u8 zeros64
    simpa using this
  have hB0 : Below w.heap.size w ((w.alloc (.cells (cellsOf .u8 zeros64) 50)).alloc (.cells (cellsOf .u8 zeros64) 50)) := ((Below.refl _ _).alloc (Nat.le_refl _) _).alloc (by simp) _
  have HK1 := hide (HK.out.below hB0)
  by_cases hbig : 64 < n
  · have hX : keyX k = sumS k := by rw [keyX, if_pos (by rw [← HN.out]; exact hbig)]
    go_wp2_with (first | (with_reducible refine wpList_alloc_row rfl 50 rfl (cellsOf .u8 zeros64) zeroK ?_))
    have HP := hide (of_any [k] (w.heap.size + 1 + 1) 0 1 _ (parts_one ((cell_of_row _ _ 0 _ _ _ (heap3_2 w (.cells (cellsOf .u8 zeros64) 50) (.cells (cellsOf .u8 zeros64) 50) (.cells #[.slice ao n cap] 22))).trans rfl) (by simp) (HK1.out.below (Below.alloc (Below.refl _ _) (Nat.le_refl _) _))) (by simp) (by simp) (by simp; have := HN.out; omega))
    refine HP.out.mono ?_
    rw [show [k].flatten = k from by simp]
    rintro e w1 ⟨rfl, hB1⟩
    have hb0' := blk_through hB1 (hb0.alloc _)
    have hb1' := blk_through hB1 (hb1.alloc _)
    have hB1' := below_through hB1 (hB0.alloc hB0.size _)
    clear hB1 hb0 hb1 hB0 HP HK1
    have hl32 : Hid ((sumS k).length = 32) := hide (length_sumS k)
    obtain ⟨X, hXX⟩ : ∃ X, X = sumS k := ⟨_, rfl⟩
    rw [← hXX] at hl32 hX ⊢
    have HKS := hide (keyS_eq k X hX)
    have HL := hide (length_keyS k)
    rw [HKS.out] at HL
    clear hX HK HN hXX
    go_wp2_with (first
      | (with_reducible refine wpList_alloc_row rfl 25 rfl (cellsOf .u8 zeros32) zero36 ?_)
      | (with_reducible refine wpList_store_row rfl 25 (.tmp 4) (.tmp 10) rfl w1.heap.size (cellsOf .u8 X) rfl rfl _ _ (heap_alloc_new _ _) (sz36 X hl32.out) (szZ32 X hl32.out) (oneCell_cellsOf _ _) ?_)
      | (refine wpList_copy_sl rfl (.tmp 12) (.tmp 13) 22 22 rfl 5 Try.underlying22 size5 (w.heap.size + 1) 64 64 (some ⟨w1.heap.size, 0, none⟩) 32 32 rfl rfl X (slAt_blkN ((Blk.new w1 25 .u8 zeros32).setRow X) hl32.out) 50 zeros64 ((hb1'.alloc _).rowOther _ _ (Nat.ne_of_lt hb1'.lt)) rfl (by omega) ?_))
    intro w2 hw2 hB2
    have hb3 := ((hb0'.alloc (.cells (cellsOf .u8 zeros32) 25)).rowOther w1.heap.size (cellsOf .u8 X) (Nat.ne_of_lt hb0'.lt)).below (hB2 (w.heap.size + 1) (Nat.le_refl _)) (by omega)
    have hB3 : Below w.heap.size w ((w1.alloc (.cells (cellsOf .u8 zeros32) 25)).setRow w1.heap.size (cellsOf .u8 X)) := below_setRow (hB1'.alloc hB1'.size _) hB1'.size _
    clear hb0' hb1' hB1'
    obtain ⟨L, hL⟩ : ∃ L, L = X ++ zeros64.drop X.length := ⟨_, rfl⟩
    rw [← hL] at HL HKS hw2
    clear hL
    go_wp2_with (first
      | (with_reducible refine wpList_load_row rfl 50 (.tmp 3) rfl (w.heap.size + 1) rfl _ _ (0, 0) _ hw2.row Try.underlying50 rfl (szK L HL.out) ?_)
      | (with_reducible refine wpList_store_row rfl 50 (.tmp 2) (.tmp 15) rfl w.heap.size _ rfl rfl _ _ hb3.row (szK L HL.out) (szZK L HL.out) (oneCell_cellsOf _ _) ?_))
    refine bodyPost_ret (v := .agg (cellsOf .u8 L)) (results_cell_row rfl _ _ w.heap.size _ _ (0, 0) _ rfl (hb3.setRow L).row Try.underlying50 rfl (szK L HL.out)) rfl ?_
    exact ⟨by rw [HKS.out], below_setRow (hB3.trans (hB2 w.heap.size (by omega))) (Nat.le_refl _) _⟩
  · have hX : keyX k = k := by rw [keyX, if_neg (by rw [← HN.out]; exact hbig)]
    go_wp2_with (first
      | (with_reducible refine wpList_alloc_row rfl 50 rfl (cellsOf .u8 zeros64) zeroK ?_)
      | (refine wpList_copy_sl rfl (.tmp 12) (.tmp 13) 22 22 rfl 5 Try.underlying22 size5 (w.heap.size + 1) 64 64 ao n cap rfl rfl k HK1.out 50 zeros64 hb1 rfl (by omega) ?_))
    intro w2 hw2 hB2
    have hb3 := hb0.below (hB2 (w.heap.size + 1) (Nat.le_refl _)) (by omega)
    have HKS := hide (keyS_eq k k hX)
    have HL := hide (length_keyS k)
    rw [HKS.out] at HL
    clear hb0 hb1 HK HK1 HN hX
    obtain ⟨L, hL⟩ : ∃ L, L = k ++ zeros64.drop k.length := ⟨_, rfl⟩
    rw [← hL] at HL HKS hw2
    clear hL
    go_wp2_with (first
      | (with_reducible refine wpList_load_row rfl 50 (.tmp 3) rfl (w.heap.size + 1) rfl _ _ (0, 0) _ hw2.row Try.underlying50 rfl (szK L HL.out) ?_)
      | (with_reducible refine wpList_store_row rfl 50 (.tmp 2) (.tmp 15) rfl w.heap.size _ rfl rfl _ _ hb3.row (szK L HL.out) (szZK L HL.out) (oneCell_cellsOf _ _) ?_))
    refine bodyPost_ret (v := .agg (cellsOf .u8 L)) (results_cell_row rfl _ _ w.heap.size _ _ (0, 0) _ rfl (hb3.setRow L).row Try.underlying50 rfl (szK L HL.out)) rfl ?_
    exact ⟨by rw [HKS.out], below_setRow (hB0.trans (hB2 w.heap.size (by omega))) (Nat.le_refl _) _⟩

/-- append of parts to a row of one part that the call has built. -/
theorem append_parts (w : World) (s : Value) (x : List Int) (ps : List (List Int)) (b o n c : Nat) (hs : SlAt w s x) (hP : PartsAt w b o ps) (hn : n = ps.length) (hm : n ≤ 100000) :
    ∃ g cap w', (Builtin.append_ #[36, 36] 36 #[.slice (some ⟨w.heap.size, 0, none⟩) 1 1, .slice (some ⟨b, o, none⟩) n c]).run Try.prog (w.alloc (.cells #[s] 22)) = .ok (.slice (some ⟨g, 0, none⟩) (1 + n) cap) w' ∧
      PartsAt w' g 0 (x :: ps) ∧ 1 + n ≤ cap ∧ Below w.heap.size w w' := by
  obtain ⟨i0, hi, hz0, hz1, hz2⟩ := info_parts Try.info28
  obtain ⟨vs, hvl, hvs⟩ := parts_vals hP
  have hB0 : Below w.heap.size w (w.alloc (.cells #[s] 22)) := (Below.refl _ _).alloc (Nat.le_refl _) _
  have hown : (w.alloc (.cells #[s] 22)).ownsRow w.heap.size 22 1 (.slice (some ⟨w.heap.size, 0, none⟩) 1 1) 1 [s] :=
    ⟨rfl, .inr ⟨w.heap.size, 1, #[s], rfl, Nat.le_refl _, heap_alloc_new _ _, Nat.le_refl _, by unfold maxLen; omega, rfl, rfl⟩⟩
  have hsrc : ∀ j u, vs[j]? = some u → (w.alloc (.cells #[s] 22)).cell? ((⟨b, o, none⟩ : Addr).add j) = some u := by
    intro j u hu
    have hil : j < ps.length := by
      rcases Nat.lt_or_ge j ps.length with h | h
      · exact h
      · rw [List.getElem?_eq_none (by omega)] at hu; cases hu
    obtain ⟨sv, h1, h2, _⟩ := hvs j hil
    have hu2 : some sv = some u := h1.symm.trans hu
    cases hu2
    rw [addr_plain]
    exact (hB0.cell (p := ⟨b, o + j, none⟩) hP.1).trans h2
  have hone : ∀ u ∈ vs, u.oneCell' = true := by
    intro u hu
    obtain ⟨j, hj, hju⟩ := List.mem_iff_getElem.1 hu
    obtain ⟨sv, h1, _, h3⟩ := hvs j (by omega)
    rw [List.getElem?_eq_getElem hj] at h1
    cases h1
    rw [← hju]
    exact h3.one
  obtain ⟨v', w', a1, a2, a3, a4, a5⟩ := run_append_own_at (P := Try.prog) _ w.heap.size 36 36 22 i0 (.slice none 0 0) 1 24 Try.underlying36 hi hz0 hz1 hz2 rfl (by omega) _ 1 [s] hown ⟨b, o, none⟩ n c vs (by omega) hsrc hone (by unfold maxLen; omega) (by omega) (by simp)
  have hB : Below w.heap.size w w' := hB0.grown a3 (by simp) (fun k e => by simp [Value.ownBlock] at e; omega)
  rcases a2.2 with ⟨e, _⟩ | ⟨g, cap, cur, e, hg, hcur, hcap, _⟩
  · exact absurd (a4.1 e).1 (by simp)
  · subst e
    refine ⟨g, cap, w', a1, ⟨(Array.getElem?_eq_some_iff.1 hcur).1, fun i hi' => ?_⟩, hcap, hB⟩
    have hcell : w'.cell? ⟨g, 0 + i, none⟩ = ([s] ++ vs)[i]? := by
      have := a2.cellAt i (by simp at hi'; omega)
      rw [Nat.zero_add]
      exact this
    cases i with
    | zero => exact ⟨s, hcell, hs.below hB⟩
    | succ j =>
      have hj : j < ps.length := by simpa using hi'
      obtain ⟨sv, h1, h2, h3⟩ := hvs j hj
      refine ⟨sv, hcell.trans ?_, ?_⟩
      · simpa using h1
      · exact h3.below hB

set_option maxRecDepth 100000 in
set_option maxHeartbeats 1000000 in
theorem turner_any (k : List Int) (kv : Value) (w : World) (hk : SlAt w kv k) (hl : k.length ≤ 100000) :
    Calls Try.prog 17 #[kv] w (fun e w' => ∃ g, e = .returned (.func (.func 26) #[] #[.pointer (some ⟨g, 0, none⟩)]) ∧ Blk w' g 50 .u8 (keyS k) ∧ Below w.heap.size w w') := by
  have HC := hide (keyBlock_any k kv w hk hl)
  have hL : Hid ((keyS k).length = 64) := hide (length_keyS k)
  generalize keyS k = L at HC hL ⊢
  obtain ⟨ao, cap, rfl⟩ := hk.len
  clear hk
  go_enter Try.func17, Try.ntmps17
  go_wp2_with fail
  refine HC.out.mono ?_
  rintro e w1 ⟨rfl, hB1⟩
  clear HC
  go_wp2_with (first
    | (with_reducible refine wpList_alloc_row rfl 50 rfl (cellsOf .u8 zeros64) zeroK ?_)
    | (with_reducible refine wpList_store_row rfl 50 (.tmp 3) (.tmp 5) rfl w1.heap.size (cellsOf .u8 L) rfl rfl _ _ (heap_alloc_new _ _) (szK L hL.out) (szZK L hL.out) (oneCell_cellsOf _ _) ?_))
  go_ret
  exact ⟨_, rfl, (Blk.new w1 50 .u8 zeros64).setRow L, below_setRow (hB1.alloc hB1.size _) hB1.size _⟩
end Go.Proofs.Ytjfidelegmjnkaa
