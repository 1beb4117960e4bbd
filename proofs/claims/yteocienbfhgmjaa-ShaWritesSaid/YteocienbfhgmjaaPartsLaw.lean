/- The law ShaParts: its walk. -/
import Derived.Test.YteocienbfhgmjaaBlocksLaw
import Derived.Test.YteocienbfhgmjaaPl
import Derived.Test.YteocienbfhgmjaaOf
import Derived.IntWalk
import Derived.StillTailTactics
import Derived.Deep.RegionHeld3
import Derived.Deep.MidRow
namespace Go.Proofs.Yteocienbfhgmjaa
open Go.RowKit

/-- The slice value v reads as the ints xs. -/
def IsAt (w : World) (v : Value) (xs : List Int) : Prop := ∃ (ao : Option Addr) (cap : Nat), v = .slice ao xs.length cap ∧ (ao = none → xs = []) ∧
  ∀ ad, ao = some ad → ∀ i, i < xs.length → ad.spot = none ∧ ad.block < w.heap.size ∧ w.cell? (ad.add i) = some (.int .i64 (nth xs i))

theorem IsAt.below {w w' : World} {v : Value} {xs : List Int} (h : IsAt w v xs) (hb : Below w.heap.size w w') : IsAt w' v xs := by
  obtain ⟨ao, cap, hv, hn, ha⟩ := h
  refine ⟨ao, cap, hv, hn, fun ad had i hi => ?_⟩
  obtain ⟨h0, h1, h2⟩ := ha ad had i hi
  refine ⟨h0, Nat.lt_of_lt_of_le h1 hb.size, (hb.cell (p := ad.add i) ?_).trans h2⟩
  unfold Addr.add
  split <;> exact h1

theorem IsAt.cell {w : World} {ao : Option Addr} {n c : Nat} {xs : List Int} (h : IsAt w (.slice ao n c) xs) {i : Nat} (hi : i < n) : ∃ ad, ao = some ad ∧ ad.spot = none ∧ w.cell? (ad.add i) = some (.int .i64 (nth xs i)) := by
  obtain ⟨ao', cap, hv, hn, ha⟩ := h
  simp at hv
  obtain ⟨rfl, rfl, rfl⟩ := hv
  cases hao : ao with
  | none => rw [hn hao] at hi; simp at hi
  | some ad => obtain ⟨h0, _, h2⟩ := ha ad hao i hi; exact ⟨ad, rfl, h0, h2⟩

theorem IsAt.len {w : World} {v : Value} {xs : List Int} (h : IsAt w v xs) : ∃ ao cap, v = .slice ao xs.length cap := by
  obtain ⟨ao, cap, hv, _⟩ := h
  exact ⟨ao, cap, hv⟩

theorem shaC_size (h : List Int) (hl : h.length = 8) (rv nv : Value) : (cellsOf .u32 h ++ #[rv, nv]).size = 10 := by simp [size_cellsOf, hl]
theorem shaC_one (h : List Int) (ao : Option Addr) (n c : Nat) (m : Int) : (cellsOf .u32 h ++ #[Value.slice ao n c, Value.int .u64 m]).all (·.oneCell') = true := by
  rw [Array.all_append, oneCell_cellsOf]
  simp [Value.oneCell']
theorem sz41 {R : Array Value} (h : R.size = 10) : (Try.prog.info? 41).map (·.size) = some R.size := by rw [h]; exact size41
theorem szTen {R : Array Value} (h : R.size = 10) (x0 x1 x2 x3 x4 x5 x6 x7 x8 x9 : Value) : (#[x0, x1, x2, x3, x4, x5, x6, x7, x8, x9] : Array Value).size = R.size := h.symm

/-- What the sum so far is: its ten cells. -/
def ShaBlk (w : World) (g : Nat) (h : List Int) (rv : Value) (n : Nat) : Prop := w.heap[g]? = some (.cells (cellsOf .u32 h ++ #[rv, .int .u64 n]) 41 (0, 0))

/-- The variable of the sum so far holds what was written: the bytes A. -/
def ShaOk (w : World) (g : Nat) (A : List Int) : Prop := ∃ ap rc, ShaBlk w g (stAt firstS A (A.length / 64)) (.slice ap (A.length % 64) rc) A.length ∧ SlAt w (.slice ap (A.length % 64) rc) (leftS A)

theorem ShaOk.take {w : World} {g : Nat} {xs : List Int} {a : Nat} (h : ShaOk w g (xs.take a)) (ha : a ≤ xs.length) : ∃ h0 h1 h2 h3 h4 h5 h6 h7 ap rc, stAt firstS (xs.take a) (a / 64) = [h0, h1, h2, h3, h4, h5, h6, h7] ∧
    w.heap[g]? = some (.cells #[.int .u32 h0, .int .u32 h1, .int .u32 h2, .int .u32 h3, .int .u32 h4, .int .u32 h5, .int .u32 h6, .int .u32 h7, .slice ap (a % 64) rc, .int .u64 a] 41 (0, 0)) ∧ SlAt w (.slice ap (a % 64) rc) (leftS (xs.take a)) := by
  obtain ⟨ap, rc, hb, hs⟩ := h
  have hl : (xs.take a).length = a := by simp; omega
  rw [hl] at hb hs
  obtain ⟨h0, h1, h2, h3, h4, h5, h6, h7, hh⟩ := list8 (length_stAt firstS (xs.take a) rfl (a / 64))
  rw [hh] at hb
  exact ⟨h0, h1, h2, h3, h4, h5, h6, h7, ap, rc, hh, hb, hs⟩

theorem slAt_own {w : World} {base : Nat} {e : TypeId} {ap : Option Addr} {n cap : Nat} {xs : List Int} (h : w.ownsRow base e 1 (.slice ap n cap) n (xs.map (.int .u8))) : SlAt w (.slice ap n cap) xs := by
  have hl := h.1
  simp at hl
  rcases h.2 with ⟨hv, hn⟩ | ⟨g, c, cur, hv, _, _, hc, _⟩
  · simp at hv
    obtain ⟨rfl, rfl, rfl⟩ := hv
    have hx : xs = [] := List.length_eq_zero_iff.1 hl
    subst hx
    exact ⟨none, 0, rfl, fun _ => ⟨rfl, rfl⟩, Nat.le_refl _, fun ad h => by cases h⟩
  · simp at hv
    obtain ⟨rfl, rfl⟩ := hv
    exact slAt_owned h hl hc

theorem shaOk_next {w wB : World} {g2 a m : Nat} {xs : List Int} (ha : a + m ≤ xs.length) {hs tk : List Int} {aq : Option Addr} {q rq : Nat} {R : Array Value} {cs : Array Value} (hst : stAt firstS (xs.take a) (a / 64) = hs)
    (htk : tk = stAt hs (leftS (xs.take a) ++ (xs.drop a).take m) ((leftS (xs.take a) ++ (xs.drop a).take m).length / 64)) (hq : q = (leftS (xs.take a) ++ (xs.drop a).take m).length % 64)
    (hown : wB.ownsRow w.heap.size 5 1 (.slice aq q rq) q (((leftS (xs.take a) ++ (xs.drop a).take m).drop (64 * ((leftS (xs.take a) ++ (xs.drop a).take m).length / 64))).map (.int .u8)))
    (hR : R = cellsOf .u32 tk ++ #[.slice aq q rq, .int .u64 ((a + m : Nat) : Int)]) (hg : g2 < w.heap.size) (hrow : wB.heap[g2]? = some (.cells cs 41 (0, 0))) : ShaOk (wB.setRow g2 R) g2 (xs.take (a + m)) := by
  have hla : (xs.take a).length = a := by simp; omega
  have hlm : (xs.take (a + m)).length = a + m := by simp; omega
  have hcat : xs.take (a + m) = xs.take a ++ (xs.drop a).take m := List.take_add
  have hmod : q = (a + m) % 64 := by
    have hlm2 := hlm
    rw [hcat] at hlm2
    rw [hq, List.length_append, length_leftS, hla]
    rw [List.length_append, hla] at hlm2
    omega
  have hstn : stAt firstS (xs.take (a + m)) ((xs.take (a + m)).length / 64) = tk := by
    rw [hcat, stAt_more, hla, hst, htk]
  have hleft : leftS (xs.take (a + m)) = leftS (leftS (xs.take a) ++ (xs.drop a).take m) := by rw [hcat, leftS_more]
  refine ⟨aq, rq, ?_, ?_⟩
  · unfold ShaBlk
    rw [hstn, hlm, ← hmod, ← hR]
    exact setRow_heap _ _ _ _ _ _ hrow
  · rw [hlm, ← hmod, hleft]
    exact slAt_own (ownsRow_setRow hown hg R)

theorem parts_four {w : World} {t : TypeId} {s0 s1 s2 s3 : Value} {x0 x1 x2 x3 : List Int} (a0 : SlAt w s0 x0) (a1 : SlAt w s1 x1) (a2 : SlAt w s2 x2) (a3 : SlAt w s3 x3) : PartsAt (w.alloc (.cells #[s0, s1, s2, s3] t)) w.heap.size 0 [x0, x1, x2, x3] := by
  have hB : Below w.heap.size w (w.alloc (.cells #[s0, s1, s2, s3] t)) := (Below.refl _ _).alloc (Nat.le_refl _) _
  refine ⟨by simp, fun i hi => ?_⟩
  have hc : ∀ j v, (#[s0, s1, s2, s3] : Array Value)[j]? = some v → (w.alloc (.cells #[s0, s1, s2, s3] t)).cell? ⟨w.heap.size, 0 + j, none⟩ = some v := fun j v hv => by
    rw [Nat.zero_add]; exact (cell_of_row _ _ j _ _ _ (heap_alloc_new _ _)).trans hv
  have h : i = 0 ∨ i = 1 ∨ i = 2 ∨ i = 3 := by simp at hi; omega
  rcases h with rfl | rfl | rfl | rfl
  · exact ⟨s0, hc 0 _ rfl, a0.below hB⟩
  · exact ⟨s1, hc 1 _ rfl, a1.below hB⟩
  · exact ⟨s2, hc 2 _ rfl, a2.below hB⟩
  · exact ⟨s3, hc 3 _ rfl, a3.below hB⟩

theorem four_flat (xs : List Int) (k a : Nat) (h : k ≤ a) : [xs.take k, [], (xs.drop k).take (a - k), xs.drop a].flatten = xs := by
  simp only [List.flatten_cons, List.flatten_nil, List.append_nil, List.nil_append]
  rw [← List.append_assoc, ← List.take_add, show k + (a - k) = a by omega, List.take_append_drop]

theorem blk_range {w : World} {g : Nat} {t : TypeId} {k : IntKind} {l : List Int} (h : Blk w g t k l) : w.rangeAt g 0 (l.map (Value.int k)) := fun j v hv => by
  have hj : j < l.length := by
    rcases Nat.lt_or_ge j l.length with h | h
    · exact h
    · simp [h] at hv
  rw [Nat.zero_add, h.cell j hj]
  simp [hj] at hv
  simp [nth, List.getD, hj, hv]

theorem sum_next {xs hs : List Int} {a n : Nat} (hn : n = xs.length) (ha : a ≤ n) (hst : stAt firstS (xs.take a) (a / 64) = hs) (X : List Int) (hX : X = leftS (xs.take a) ++ (xs.drop a).take (n - a)) :
    outS (stAt (stAt hs X (X.length / 64)) (X.drop (64 * (X.length / 64)) ++ endS n) ((X.drop (64 * (X.length / 64)) ++ endS n).length / 64)) = sumS xs := by
  have hla : (xs.take a).length = a := by simp; omega
  have hcat : xs = xs.take a ++ (xs.drop a).take (n - a) := by rw [← List.take_add, show a + (n - a) = xs.length by omega, List.take_length]
  have h1 := stAt_more firstS (xs.take a) ((xs.drop a).take (n - a))
  rw [← hcat, ← hX, hla, hst] at h1
  have h2 : leftS xs = X.drop (64 * (X.length / 64)) := by
    have := leftS_more (xs.take a) ((xs.drop a).take (n - a))
    rw [← hcat, ← hX] at this
    exact this
  have h3 := stAt_more firstS xs (endS n)
  rw [h1, h2, hn] at h3
  rw [sumS, h3, hn]

theorem eq36 (C : List Value) (T : List Int) (hC : C = T.map (Value.int .u8)) (hT : T.length = 32) (w : World) : (Op.equalIn 10000 36 (.agg C.toArray) (.agg C.toArray)).run Try.prog w = .ok true w := by
  have h := run_equalIn_cells (P := Try.prog) 9998 36 5 32 .u8 Try.underlying36 Try.underlying5 size5 T T hT hT w
  rw [beq_self_eq_true] at h
  rw [hC]
  exact h

theorem clamp (c : Int) (n a : Nat) (h : a ≤ n) : ∃ m : Nat, a + m ≤ n ∧ (if (if 0 < c then c else 0) < (n : Int) - (a : Int) then (if 0 < c then c else 0) else (n : Int) - (a : Int)) = (m : Int) := by
  refine ⟨(if (if 0 < c then c else 0) < (n : Int) - (a : Int) then (if 0 < c then c else 0) else (n : Int) - (a : Int)).toNat, ?_, ?_⟩ <;> (repeat' split) <;> omega

theorem under36 : Try.prog.underlying 36 = some (.array 32 5) := Try.underlying36

set_option maxRecDepth 100000 in
set_option maxHeartbeats 1000000 in
theorem parts_walk (xs cs : List Int) (v cv : Value) (w : World) (hx : SlAt w v xs) (hc : IsAt w cv cs) (hm : xs.length ≤ maxLen) (hcm : cs.length ≤ maxLen) :
    Calls Try.prog 7 #[v, cv] w (LawPost w) := by
  obtain ⟨ao, cap, rfl⟩ := hx.len
  obtain ⟨co, ccap, rfl⟩ := hc.len
  have HX := hide hx
  have HC := hide hc
  obtain ⟨n, hn⟩ : ∃ n, n = xs.length := ⟨_, rfl⟩
  obtain ⟨cn, hcn⟩ : ∃ n, n = cs.length := ⟨_, rfl⟩
  have HN := hide hn
  rw [← hn] at HX hm ⊢
  rw [← hcn] at HC hcm ⊢
  unfold maxLen at hm hcm
  clear hx hc hn hcn
  go_enter Try.func7, Try.ntmps7
  by_cases hbig : 4000 < n ∨ 100 < cn
  · have hb1 : ¬ 4000 < n → 100 < cn := fun h => hbig.resolve_left h
    by_cases h4 : 4000 < n
    · clear hb1 hbig
      go_wp2_with fail
      refine (awake_any _).mono ?_
      rintro e w1 ⟨rfl, hB⟩
      go_wp2_with fail
      go_ret
      exact ⟨rfl, hB⟩
    · have h5 := hb1 h4
      clear hb1 hbig
      go_wp2_with fail
      refine (awake_any _).mono ?_
      rintro e w1 ⟨rfl, hB⟩
      go_wp2_with fail
      go_ret
      exact ⟨rfl, hB⟩
  · have h4 : ¬ 4000 < n := fun h => hbig (.inl h)
    have h5 : ¬ 100 < cn := fun h => hbig (.inr h)
    clear hbig
    go_wp2_with (first | (with_reducible refine wpList_alloc_row rfl 36 rfl (cellsOf .u8 zeros32) zero36 ?_))
    have hB0 : Below w.heap.size w (w.alloc (.cells #[.slice ao n cap] 28)) := (Below.refl _ _).alloc (Nat.le_refl _) _
    have hO := of_any [xs] w.heap.size 0 1 (w.alloc (.cells #[.slice ao n cap] 28)) (parts_one (sv := .slice ao n cap) ((cell_of_row _ _ 0 _ _ _ (heap_alloc_new _ _)).trans rfl) (by simp) (HX.out.below hB0)) (by simp) (by simp) (by simp [← HN.out]; omega)
    have HO := hide hO
    have HB0 := hide hB0
    clear hO hB0
    refine HO.out.mono ?_
    rintro e w1 ⟨rfl, hB1⟩
    have HB1 : Hid (Below w.heap.size w w1) := hide (below_through hB1 HB0.out)
    clear hB1 HO HB0
    rw [show [xs].flatten = xs by simp]
    obtain ⟨T, hT⟩ : ∃ T, T = sumS xs := ⟨_, rfl⟩
    have hTl : T.length = 32 := by rw [hT]; exact length_outS _
    rw [← hT]
    have HT := hide hT
    have HTL := hide hTl
    clear hT hTl
    go_wp2_with (first | (with_reducible refine wpList_alloc_row rfl 36 rfl (cellsOf .u8 zeros32) zero36 ?_) | (with_reducible refine wpList_store_blk rfl 36 (.tmp 5) (.tmp 22) rfl w1.heap.size .u8 T rfl rfl _ _ (Blk.new w1 36 .u8 zeros32) (sz36 T HTL.out) (len32 HTL.out) ?_))
    intro w2 hb2 hz2 hB2 hk2
    have HB2 : Hid (Below w.heap.size w w2) := hide ((HB1.out.alloc HB1.out.size _).trans (hB2 _ HB1.out.size))
    have hg : w.heap.size ≤ w1.heap.size := HB1.out.size
    generalize w1.heap.size = g at hb2 hg hz2 hB2 hk2 ⊢
    have Hb2 := hide hb2
    clear hb2 hz2 hB2 hk2 HB1
    go_wp2_with fail
    refine (new_any _).mono ?_
    rintro e w3 ⟨rfl, hB3⟩
    have HB3 := hide (below_through hB3 HB2.out)
    have Hb3 := hide (Hb2.out.below hB3 Hb2.out.lt)
    have hg2 : g < w3.heap.size := Hb3.out.lt
    have hg3 : w.heap.size ≤ w3.heap.size := HB3.out.size
    clear hB3 Hb2 HB2
    rw [show shaV firstS (.slice none 0 0) 0 = .agg (cellsOf .u32 firstS ++ #[.slice none 0 0, .int .u64 0]) from rfl]
    obtain ⟨R, hR⟩ : ∃ R : Array Value, R = cellsOf .u32 firstS ++ #[.slice none 0 0, .int .u64 0] := ⟨_, rfl⟩
    rw [← hR]
    have HR := hide hR
    have HRS : Hid (R.size = 10) := hide (by rw [hR]; exact shaC_size _ rfl _ _)
    have HRO : Hid (R.all (·.oneCell') = true) := hide (by rw [hR]; exact shaC_one _ _ _ _ _)
    clear hR
    go_wp2_with (first | (refine wpList_store_row rfl 41 (.tmp 6) (.tmp 23) rfl w3.heap.size R rfl rfl _ _ (heap_alloc_new _ _) (sz41 HRS.out) (szTen HRS.out _ _ _ _ _ _ _ _ _ _) HRO.out ?_))
    have hrow : ((w3.alloc (.cells #[.int .u32 0, .int .u32 0, .int .u32 0, .int .u32 0, .int .u32 0, .int .u32 0, .int .u32 0, .int .u32 0, .slice none 0 0, .int .u64 0] 41)).setRow w3.heap.size R).heap[w3.heap.size]? = some (.cells R 41 (0, 0)) := setRow_heap _ _ _ _ _ _ (heap_alloc_new _ _)
    obtain ⟨w4, hw4⟩ : ∃ w4, w4 = (w3.alloc (.cells #[.int .u32 0, .int .u32 0, .int .u32 0, .int .u32 0, .int .u32 0, .int .u32 0, .int .u32 0, .int .u32 0, .slice none 0 0, .int .u64 0] 41)).setRow w3.heap.size R := ⟨_, rfl⟩
    rw [← hw4] at hrow ⊢
    have HB4 : Hid (Below w.heap.size w w4) := hide (by rw [hw4]; exact below_setRow (HB3.out.alloc hg3 _) hg3 _)
    have Hb4 : Hid (Blk w4 g 36 .u8 T) := hide (by rw [hw4]; exact (Hb3.out.alloc _).rowOther _ _ (Nat.ne_of_lt hg2))
    rw [HR.out] at hrow
    have HS : Hid (ShaBlk w4 w3.heap.size firstS (.slice none 0 0) 0) := hide hrow
    clear hw4 hrow HR HB3 Hb3
    have hg4 : w3.heap.size < w4.heap.size := (Array.getElem?_eq_some_iff.1 HS.out).1
    generalize w3.heap.size = g2 at HS hg2 hg3 hg4 ⊢
    have HO : Hid (ShaOk w4 g2 []) := hide ⟨none, 0, HS.out, ⟨none, 0, rfl, fun _ => ⟨rfl, rfl⟩, Nat.le_refl _, fun ad h => by cases h⟩⟩
    clear HS
    generalize hbx : decide (4000 < (n : Int)) = bx
    clear hbx
    generalize hby : decide (100 < (cn : Int)) = bY
    clear hby
    go_loopw [7, 8] (fun at' i wr => ∃ k a : Nat, k ≤ cn ∧ a ≤ n ∧ i = .int .i64 (k : Int) ∧ at' = .int .i64 (a : Int) ∧ ShaOk wr g2 (xs.take a) ∧ Blk wr g 36 .u8 T ∧ Below w.heap.size w wr) (fun _ i _ => cn - (intOf i).toNat)
    case atStart => exact ⟨0, 0, Nat.zero_le _, Nat.zero_le _, rfl, rfl, HO.out, Hb4.out, HB4.out⟩
    case round =>
      obtain ⟨k, a, hk, ha, rfl, rfl, hso, hb, hB⟩ := hrel
      have HSO := hide hso
      have Hb := hide hb
      have HB := hide hB
      clear hso hb HO Hb4 HB4 hg4
      have hn4 : n ≤ 4000 := by omega
      have hcapn : n ≤ cap := by obtain ⟨_, _, hv, _, hcc, _⟩ := HX.out; simp at hv; have := HN.out; omega
      obtain ⟨h0, h1, h2, h3, h4, h5, h6, h7, ap, rc, hst, hrow, hsl⟩ := HSO.out.take (by rw [← HN.out]; exact ha)
      have HST := hide hst
      have HROW := hide hrow
      have hgl : g2 < wr.heap.size := (Array.getElem?_eq_some_iff.1 hrow).1
      obtain ⟨r, hr⟩ : ∃ r, r = a % 64 := ⟨_, rfl⟩
      rw [← hr] at hrow hsl
      have hrl : r < 64 := by omega
      have HSL := hide hsl
      clear hst HSO hsl hr
      by_cases hlt : k < cn
      · obtain ⟨ad, rfl, had, hcell⟩ := (HC.out.below hB).cell hlt
        clear hB
        replace hrow := hide hrow
        go_upto_region 10 with (fail)
        obtain ⟨m, hm1, hm2⟩ := clamp (nth cs k) n a ha
        rw [hm2]
        clear hm2 hcell
        generalize (if 0 < nth cs k then nth cs k else 0) = mx
        replace hrow := hrow.out
        have c0 : wr.cell? ⟨g2, 0, none⟩ = some (.int .u32 h0) := (cell_of_row _ _ 0 _ _ _ hrow).trans rfl
        have c1 : wr.cell? ⟨g2, 1, none⟩ = some (.int .u32 h1) := (cell_of_row _ _ 1 _ _ _ hrow).trans rfl
        have c2 : wr.cell? ⟨g2, 2, none⟩ = some (.int .u32 h2) := (cell_of_row _ _ 2 _ _ _ hrow).trans rfl
        have c3 : wr.cell? ⟨g2, 3, none⟩ = some (.int .u32 h3) := (cell_of_row _ _ 3 _ _ _ hrow).trans rfl
        have c4 : wr.cell? ⟨g2, 4, none⟩ = some (.int .u32 h4) := (cell_of_row _ _ 4 _ _ _ hrow).trans rfl
        have c5 : wr.cell? ⟨g2, 5, none⟩ = some (.int .u32 h5) := (cell_of_row _ _ 5 _ _ _ hrow).trans rfl
        have c6 : wr.cell? ⟨g2, 6, none⟩ = some (.int .u32 h6) := (cell_of_row _ _ 6 _ _ _ hrow).trans rfl
        have c7 : wr.cell? ⟨g2, 7, none⟩ = some (.int .u32 h7) := (cell_of_row _ _ 7 _ _ _ hrow).trans rfl
        have c8 : wr.cell? ⟨g2, 8, none⟩ = some (.slice ap r rc) := (cell_of_row _ _ 8 _ _ _ hrow).trans rfl
        have c9 : wr.cell? ⟨g2, 9, none⟩ = some (.int .u64 a) := (cell_of_row _ _ 9 _ _ _ hrow).trans rfl
        clear hrow
        have HW : ∀ wB : World, Below wr.heap.size wr wB → Calls Try.prog 23 #[.agg #[.int .u32 h0, .int .u32 h1, .int .u32 h2, .int .u32 h3, .int .u32 h4, .int .u32 h5, .int .u32 h6, .int .u32 h7, .slice ap r rc, .int .u64 a], sl ao a m cap] wB (WritePost [h0, h1, h2, h3, h4, h5, h6, h7] (leftS (xs.take a) ++ (xs.drop a).take m) ((a + m : Nat) : Int) wB) := fun wB hBY => by
          have hl : ((xs.drop a).take m).length = m := by have := HN.out; simp; omega
          have h := write_any [h0, h1, h2, h3, h4, h5, h6, h7] (leftS (xs.take a)) ((xs.drop a).take m) (.slice ap r rc) (sl ao a m cap) a wB rfl (HSL.out.below hBY) ((HX.out.below (HB.out.trans (hBY.mono HB.out.size))).cut hm1) (by rw [hl, length_leftS]; omega)
          rw [hl, show IntKind.u64.wrap ((a : Int) + (m : Int)) = ((a + m : Nat) : Int) by rw [IntKind.wrap_u64]; omega] at h
          exact h
        have HWR := hide HW
        clear HW
        have hcut := run_cut_lh (P := Try.prog) (t := 28) (e := 5) Try.underlying28 size5 ao n cap a m (by omega)
        have hwr : IntKind.i64.wrap ((a : Int) + (m : Int)) = (a : Int) + (m : Int) := IntWalk.i64_in _ (by omega)
        clear hcapn
        go_still_tail 7, (by kernel_rfl)
        clear hcut hwr c0 c1 c2 c3 c4 c5 c6 c7 c8 c9
        change wpList _ _ _ _ _ wr.drew
        have HBd : Hid (Below w.heap.size w wr.drew) := hide HB.out.drew
        have Hbd : Hid (Blk wr.drew g 36 .u8 T) := hide Hb.out
        have HROWd := hide (show wr.drew.heap[g2]? = _ from HROW.out)
        have HWd := hide (HWR.out wr.drew (Below.refl _ _).drew)
        have hgd : g2 < wr.drew.heap.size := hgl
        clear HB Hb HROW HWR HSL hgl
        generalize wr.drew = wd at HBd Hbd HROWd HWd hgd ⊢
        clear wr
        go_wp2_with fail
        refine HWd.out.mono ?_
        rintro e wB ⟨aq, rq, rfl, hown, hBX⟩
        have HROWB := hide ((hBX.block g2 hgd).trans HROWd.out)
        have HBB := hide (below_through hBX HBd.out)
        have HbB := hide (blk_through hBX Hbd.out)
        have HOWN := hide hown
        clear hBX hown HWd HROWd HBd Hbd
        obtain ⟨q, hq⟩ : ∃ q, q = (leftS (xs.take a) ++ (xs.drop a).take m).length % 64 := ⟨_, rfl⟩
        rw [← hq] at HOWN ⊢
        have HQ := hide hq
        obtain ⟨tk, htk⟩ : ∃ tk, tk = stAt [h0, h1, h2, h3, h4, h5, h6, h7] (leftS (xs.take a) ++ (xs.drop a).take m) ((leftS (xs.take a) ++ (xs.drop a).take m).length / 64) := ⟨_, rfl⟩
        have htl : tk.length = 8 := by rw [htk]; exact length_stAt _ _ rfl _
        rw [← htk, show shaV tk (.slice aq q rq) ((a + m : Nat) : Int) = .agg (cellsOf .u32 tk ++ #[.slice aq q rq, .int .u64 ((a + m : Nat) : Int)]) from rfl]
        have HTK := hide htk
        obtain ⟨R2, hR2⟩ : ∃ R2 : Array Value, R2 = cellsOf .u32 tk ++ #[.slice aq q rq, .int .u64 ((a + m : Nat) : Int)] := ⟨_, rfl⟩
        rw [← hR2]
        have HRR := hide hR2
        have HR2S : Hid (R2.size = 10) := hide (by rw [hR2]; exact shaC_size _ htl _ _)
        have HR2O : Hid (R2.all (·.oneCell') = true) := hide (by rw [hR2]; exact shaC_one _ _ _ _ _)
        clear hR2 htk htl hq
        have HNX := hide (shaOk_next (by rw [← HN.out]; exact hm1) HST.out HTK.out HQ.out HOWN.out HRR.out hgd HROWB.out)
        have HBN := hide (below_setRow HBB.out hg3 R2)
        have HbN := hide (HbB.out.rowOther g2 R2 (Nat.ne_of_lt hg2))
        clear hgd HTK HQ HOWN HRR
        go_wp2_with (first | (refine wpList_store_row rfl 41 (.tmp 6) (.tmp 47) rfl g2 R2 rfl rfl _ _ HROWB.out (sz41 HR2S.out) (szTen HR2S.out _ _ _ _ _ _ _ _ _ _) HR2O.out ?_))
        go_roundw
        case rel => exact ⟨k + 1, a + m, by omega, hm1, by go_num, by go_num, HNX.out, HbN.out, HBN.out⟩
        case measure => simp [intOf]; omega
      · replace hrow := hide hrow
        clear hB
        go_upto_region 13 with (fail)
        obtain ⟨k2, hk2, hk3⟩ : ∃ k2 : Nat, (a : Int) / 2 = (k2 : Int) ∧ k2 ≤ a := ⟨a / 2, by omega, by omega⟩
        rw [hk2]
        clear hk2
        replace hrow := hrow.out
        have hgg : g < wr.heap.size := Nat.lt_trans hg2 hgl
        clear hlt hk HROW
        obtain ⟨X, hX⟩ : ∃ X, X = leftS (xs.take a) ++ (xs.drop a).take (n - a) := ⟨_, rfl⟩
        have HXX := hide hX
        obtain ⟨C, hC⟩ : ∃ C, C = T.map (Value.int .u8) := ⟨_, rfl⟩
        have HCA : Hid (cellsOf .u8 T = C.toArray) := hide (by rw [hC]; rfl)
        have hr0 : wr.rangeAt g 0 C := by rw [hC]; exact blk_range Hb.out
        have heq := eq36 C T hC HTL.out
        have hinf : (Try.prog.info? 36).map (·.size) = some C.length := by rw [hC, List.length_map, HTL.out]; exact size36
        obtain ⟨b1, l1, z1, hv1⟩ : ∃ b l d, sl ao k2 (a - k2) cap = .slice b l d := ⟨_, _, _, rfl⟩
        obtain ⟨b2, l2, z2, hv2⟩ : ∃ b l d, sl ao a (n - a) cap = .slice b l d := ⟨_, _, _, rfl⟩
        have HV1 := hide hv1
        have HV2 := hide hv2
        clear hv1 hv2
        have HW : ∀ wB : World, Below wr.heap.size wr wB → Calls Try.prog 23 #[.agg #[.int .u32 h0, .int .u32 h1, .int .u32 h2, .int .u32 h3, .int .u32 h4, .int .u32 h5, .int .u32 h6, .int .u32 h7, .slice ap r rc, .int .u64 a], .slice b2 l2 z2] wB (WritePost [h0, h1, h2, h3, h4, h5, h6, h7] X ((n : Nat) : Int) wB) := fun wB hBY => by
          have hl : ((xs.drop a).take (n - a)).length = n - a := by have := HN.out; simp; omega
          have h := write_any [h0, h1, h2, h3, h4, h5, h6, h7] (leftS (xs.take a)) ((xs.drop a).take (n - a)) (.slice ap r rc) (.slice b2 l2 z2) a wB rfl (HSL.out.below hBY) (by rw [← HV2.out]; exact (HX.out.below (HB.out.trans (hBY.mono HB.out.size))).cut (by omega)) (by rw [hl, length_leftS]; omega)
          rw [hl, show IntKind.u64.wrap ((a : Int) + ((n - a : Nat) : Int)) = ((n : Nat) : Int) by rw [IntKind.wrap_u64]; omega, ← hX] at h
          exact h
        have HWR := hide HW
        have HO : ∀ W : World, Below wr.heap.size wr W → Calls Try.prog 21 #[.slice (some ⟨W.heap.size, 0, none⟩) 4 4] (W.alloc (.cells #[.slice ao k2 cap, .slice none 0 0, .slice b1 l1 z1, .slice b2 l2 z2] 28)) (fun e w' => e = .returned (.agg C.toArray) ∧ Below (W.alloc (.cells #[.slice ao k2 cap, .slice none 0 0, .slice b1 l1 z1, .slice b2 l2 z2] 28)).heap.size (W.alloc (.cells #[.slice ao k2 cap, .slice none 0 0, .slice b1 l1 z1, .slice b2 l2 z2] 28)) w') := fun W hW => by
          have hx2 := HX.out.below (HB.out.trans (hW.mono HB.out.size))
          have hp := parts_four (t := 28) (hx2.front' (m := k2) (by omega)) (slAt_nil W) (hx2.cut (lo := k2) (m := a - k2) (by omega)) (hx2.cut (lo := a) (m := n - a) (by omega))
          have hd : (xs.drop a).take (n - a) = xs.drop a := List.take_of_length_le (by have := HN.out; simp; omega)
          rw [hd, HV1.out, HV2.out] at hp
          have hf := four_flat xs k2 a hk3
          have h := of_any [xs.take k2, [], (xs.drop k2).take (a - k2), xs.drop a] W.heap.size 0 4 _ hp (by simp) (by simp) (by rw [hf]; have := HN.out; omega)
          rw [hf, ← HT.out, HCA.out] at h
          exact h
        have HOF := hide HO
        have hcut1' := run_cut_l (P := Try.prog) (t := 28) (e := 5) Try.underlying28 size5 ao n cap a ha
        have hcut2 := run_cut_h (P := Try.prog) (t := 28) (e := 5) Try.underlying28 size5 ao n cap k2 (by omega)
        have hcut3' := run_cut_lh2 (P := Try.prog) (t := 28) (e := 5) Try.underlying28 size5 ao n cap k2 a hk3 (by omega)
        have hcut1 : ∀ w, _ := fun w => (hcut1' w).trans (by rw [HV2.out])
        have hcut3 : ∀ w, _ := fun w => (hcut3' w).trans (by rw [HV1.out])
        clear hcut1' hcut3'
        have c0 : wr.cell? ⟨g2, 0, none⟩ = some (.int .u32 h0) := (cell_of_row _ _ 0 _ _ _ hrow).trans rfl
        have c1 : wr.cell? ⟨g2, 1, none⟩ = some (.int .u32 h1) := (cell_of_row _ _ 1 _ _ _ hrow).trans rfl
        have c2 : wr.cell? ⟨g2, 2, none⟩ = some (.int .u32 h2) := (cell_of_row _ _ 2 _ _ _ hrow).trans rfl
        have c3 : wr.cell? ⟨g2, 3, none⟩ = some (.int .u32 h3) := (cell_of_row _ _ 3 _ _ _ hrow).trans rfl
        have c4 : wr.cell? ⟨g2, 4, none⟩ = some (.int .u32 h4) := (cell_of_row _ _ 4 _ _ _ hrow).trans rfl
        have c5 : wr.cell? ⟨g2, 5, none⟩ = some (.int .u32 h5) := (cell_of_row _ _ 5 _ _ _ hrow).trans rfl
        have c6 : wr.cell? ⟨g2, 6, none⟩ = some (.int .u32 h6) := (cell_of_row _ _ 6 _ _ _ hrow).trans rfl
        have c7 : wr.cell? ⟨g2, 7, none⟩ = some (.int .u32 h7) := (cell_of_row _ _ 7 _ _ _ hrow).trans rfl
        have c8 : wr.cell? ⟨g2, 8, none⟩ = some (.slice ap r rc) := (cell_of_row _ _ 8 _ _ _ hrow).trans rfl
        have c9 : wr.cell? ⟨g2, 9, none⟩ = some (.int .u64 a) := (cell_of_row _ _ 9 _ _ _ hrow).trans rfl
        clear HW HO hcapn hX hC hrow Hb
        have hS0 : ∀ W, Below wr.heap.size wr W → (fun w' => w'.rangeAt g 0 C ∧ w'.cell? ⟨g2, 0, none⟩ = some (.int .u32 h0) ∧ w'.cell? ⟨g2, 1, none⟩ = some (.int .u32 h1) ∧ w'.cell? ⟨g2, 2, none⟩ = some (.int .u32 h2) ∧ w'.cell? ⟨g2, 3, none⟩ = some (.int .u32 h3) ∧ w'.cell? ⟨g2, 4, none⟩ = some (.int .u32 h4) ∧ w'.cell? ⟨g2, 5, none⟩ = some (.int .u32 h5) ∧ w'.cell? ⟨g2, 6, none⟩ = some (.int .u32 h6) ∧ w'.cell? ⟨g2, 7, none⟩ = some (.int .u32 h7) ∧ w'.cell? ⟨g2, 8, none⟩ = some (.slice ap r rc) ∧ w'.cell? ⟨g2, 9, none⟩ = some (.int .u64 a)) W := fun W hb => ⟨fun j v hv => (hb.cell (p := ⟨g, 0 + j, none⟩) hgg).trans (hr0 j v hv), (hb.cell (p := ⟨g2, 0, none⟩) hgl).trans c0, (hb.cell (p := ⟨g2, 1, none⟩) hgl).trans c1, (hb.cell (p := ⟨g2, 2, none⟩) hgl).trans c2, (hb.cell (p := ⟨g2, 3, none⟩) hgl).trans c3, (hb.cell (p := ⟨g2, 4, none⟩) hgl).trans c4, (hb.cell (p := ⟨g2, 5, none⟩) hgl).trans c5, (hb.cell (p := ⟨g2, 6, none⟩) hgl).trans c6, (hb.cell (p := ⟨g2, 7, none⟩) hgl).trans c7, (hb.cell (p := ⟨g2, 8, none⟩) hgl).trans c8, (hb.cell (p := ⟨g2, 9, none⟩) hgl).trans c9⟩
        have HS0 := hide hS0
        have HINF := hide hinf
        clear hS0 hinf hr0 c0 c1 c2 c3 c4 c5 c6 c7 c8 c9
        refine wp_region_held_drew (S := fun w' => w'.rangeAt g 0 C ∧ w'.cell? ⟨g2, 0, none⟩ = some (.int .u32 h0) ∧ w'.cell? ⟨g2, 1, none⟩ = some (.int .u32 h1) ∧ w'.cell? ⟨g2, 2, none⟩ = some (.int .u32 h2) ∧ w'.cell? ⟨g2, 3, none⟩ = some (.int .u32 h3) ∧ w'.cell? ⟨g2, 4, none⟩ = some (.int .u32 h4) ∧ w'.cell? ⟨g2, 5, none⟩ = some (.int .u32 h5) ∧ w'.cell? ⟨g2, 6, none⟩ = some (.int .u32 h6) ∧ w'.cell? ⟨g2, 7, none⟩ = some (.int .u32 h7) ∧ w'.cell? ⟨g2, 8, none⟩ = some (.slice ap r rc) ∧ w'.cell? ⟨g2, 9, none⟩ = some (.int .u64 a)) (by kernel_rfl) (HS0.out _ (Below.refl _ _).drew) (fun hHeld => ?_)
        refine wpAnyH_take (i := 0) (oi := { dst := some 53, op := Op.load 41 (Operand.tmp 6), type := 41, pos := "law.go:79", after := #[], guard := none }) (v := ?_) rfl (by kernel_rfl) (by kernel_rfl) (by kernel_rfl) (fun _ _ _ h => h) (Or.inl ⟨by rfl, ?_⟩) hHeld ?_
        rotate_left
        · intro w hSw; (try dsimp only at hSw); go_simp; first | done | with_reducible rfl
        try simp only [Act.put, List.setIfInBounds_toArray, List.set_cons_zero, List.set_cons_succ]
        refine wpAnyH_take (i := 1) (oi := { dst := some 54, op := Op.move (Operand.tmp 0), type := 28, pos := "law.go:79", after := #[], guard := none }) (v := ?_) rfl (by kernel_rfl) (by kernel_rfl) (by kernel_rfl) (fun _ _ _ h => h) (Or.inl ⟨by rfl, ?_⟩) hHeld ?_
        rotate_left
        · intro w hSw; (try dsimp only at hSw); go_simp; first | done | with_reducible rfl
        try simp only [Act.put, List.setIfInBounds_toArray, List.set_cons_zero, List.set_cons_succ]
        refine wpAnyH_take (i := 2) (oi := { dst := some 55, op := Op.move (Operand.tmp 7), type := 3, pos := "law.go:79", after := #[], guard := none }) (v := ?_) rfl (by kernel_rfl) (by kernel_rfl) (by kernel_rfl) (fun _ _ _ h => h) (Or.inl ⟨by rfl, ?_⟩) hHeld ?_
        rotate_left
        · intro w hSw; (try dsimp only at hSw); go_simp; first | done | with_reducible rfl
        try simp only [Act.put, List.setIfInBounds_toArray, List.set_cons_zero, List.set_cons_succ]
        refine wpAnyH_take (i := 3) (oi := { dst := some 56, op := Op.slice 28 (Operand.tmp 54) (some (Operand.tmp 55)) none none, type := 28, pos := "law.go:79", after := #[{ on := 1, ground := Ground.data }, { on := 2, ground := Ground.data }], guard := none }) (v := ?_) rfl (by kernel_rfl) (by kernel_rfl) (by kernel_rfl) (fun _ _ _ h => h) (Or.inl ⟨by rfl, ?_⟩) hHeld ?_
        rotate_left
        · intro w hSw; (try dsimp only at hSw); go_simp; first | done | with_reducible rfl
        try simp only [Act.put, List.setIfInBounds_toArray, List.set_cons_zero, List.set_cons_succ]
        refine wpAnyH_take (i := 6) (oi := { dst := some 59, op := Op.load 36 (Operand.tmp 5), type := 36, pos := "law.go:79", after := #[], guard := none }) (v := .agg C.toArray) rfl (by kernel_rfl) (by kernel_rfl) (by kernel_rfl) (fun _ _ _ h => h) (yieldsIf_load_mid (by rfl) _ _ rfl g 0 rfl C _ (fun w hS => hS.1) under36 rfl HINF.out) hHeld ?_
        try simp only [Act.put, List.setIfInBounds_toArray, List.set_cons_zero, List.set_cons_succ]
        refine wpAnyH_ready (rs := [4]) (by kernel_rfl) (by simp) ?_
        refine AllReadyH.cons (o := { dst := some 57, op := Op.call { callee := Callee.value (Operand.func 23), args := #[Operand.tmp 53, Operand.tmp 56], argTypes := #[41, 28] }, type := 41, pos := "law.go:79", after := #[{ on := 0, ground := Ground.data }, { on := 3, ground := Ground.data }], guard := none }) rfl (fun K hK => ?_) AllReadyH.nil
        clear hHeld
        go_simp
        refine (HWR.out _ (Below.refl _ _).drew).mono ?_
        rintro e wB ⟨aq, rq, rfl, hown, hBX⟩
        have HBY := hide ((Below.refl wr.heap.size wr).drew.trans hBX)
        have hL := slAt_own hown
        clear hBX hown
        obtain ⟨tk, htk⟩ : ∃ tk, tk = stAt [h0, h1, h2, h3, h4, h5, h6, h7] X (X.length / 64) := ⟨_, rfl⟩
        have htl : tk.length = 8 := by rw [htk]; exact length_stAt _ _ rfl _
        rw [← htk]
        have HTK := hide htk
        have HTKL := hide htl
        clear htk htl
        have hql : X.length % 64 < 64 := Nat.mod_lt _ (by omega)
        have HL2 := hide hL
        clear hL
        have HX64 : Hid ((X.drop (64 * (X.length / 64))).length ≤ 64) := hide (by simp; omega)
        generalize X.length % 64 = q at HL2 hql ⊢
        clear hql
        dsimp only
        refine hK.out _ _ (HS0.out _ HBY.out) (fun hHeld => ?_)
        clear hK K
        try simp only [Act.put, List.setIfInBounds_toArray, List.set_cons_zero, List.set_cons_succ]
        refine wpAnyH_ready (rs := [5]) (by kernel_rfl) (by simp) ?_
        refine AllReadyH.cons (o := { dst := some 58, op := Op.call { callee := Callee.value (Operand.func 26), args := #[Operand.tmp 57], argTypes := #[41] }, type := 36, pos := "law.go:79", after := #[{ on := 4, ground := Ground.data }, { on := 4, ground := Ground.chain }], guard := none }) rfl (fun K hK => ?_) AllReadyH.nil
        clear hHeld
        go_simp
        refine (sum_any tk (X.drop (64 * (X.length / 64))) (.slice aq q rq) n _ HTKL.out HL2.out (Nat.le_trans HX64.out (by omega))).mono ?_
        rintro e wC ⟨rfl, hBX⟩
        have HBZ := hide (HBY.out.trans (hBX.mono HBY.out.size))
        clear hBX
        rw [HTK.out, sum_next HN.out ha HST.out X HXX.out, ← HT.out, HCA.out]
        dsimp only
        refine hK.out _ _ (HS0.out _ HBZ.out) (fun hHeld => ?_)
        clear hK K
        try simp only [Act.put, List.setIfInBounds_toArray, List.set_cons_zero, List.set_cons_succ]
        refine wpAnyH_take (i := 7) (oi := { dst := some 60, op := Op.binOp BinOp.eql 36 (Operand.tmp 58) (Operand.tmp 59) 36, type := 4, pos := "law.go:79", after := #[{ on := 5, ground := Ground.data }, { on := 6, ground := Ground.data }], guard := none }) (v := ?_) rfl (by kernel_rfl) (by kernel_rfl) (by kernel_rfl) (fun _ _ _ h => h) (Or.inl ⟨by rfl, ?_⟩) hHeld ?_
        rotate_left
        · intro w hSw; (try dsimp only at hSw); go_simp; first | done | with_reducible rfl
        try simp only [Act.put, List.setIfInBounds_toArray, List.set_cons_zero, List.set_cons_succ]
        refine wpAnyH_take (i := 8) (oi := { dst := some 61, op := Op.move (Operand.tmp 60), type := 4, pos := "law.go:79", after := #[{ on := 7, ground := Ground.data }, { on := 5, ground := Ground.chain }], guard := none }) (v := ?_) rfl (by kernel_rfl) (by kernel_rfl) (by kernel_rfl) (fun _ _ _ h => h) (Or.inl ⟨by rfl, ?_⟩) hHeld ?_
        rotate_left
        · intro w hSw; (try dsimp only at hSw); go_simp; first | done | with_reducible rfl
        try simp only [Act.put, List.setIfInBounds_toArray, List.set_cons_zero, List.set_cons_succ]
        refine wpAnyH_take (i := 9) (oi := { dst := some 62, op := Op.move (Operand.tmp 0), type := 28, pos := "law.go:79", after := #[{ on := 8, ground := Ground.guard }], guard := some (8, true) }) (v := ?_) rfl (by kernel_rfl) (by kernel_rfl) (by kernel_rfl) (fun _ _ _ h => h) (Or.inl ⟨by rfl, ?_⟩) hHeld ?_
        rotate_left
        · intro w hSw; (try dsimp only at hSw); go_simp; first | done | with_reducible rfl
        try simp only [Act.put, List.setIfInBounds_toArray, List.set_cons_zero, List.set_cons_succ]
        refine wpAnyH_take (i := 10) (oi := { dst := some 63, op := Op.move (Operand.tmp 10), type := 3, pos := "law.go:79", after := #[{ on := 8, ground := Ground.guard }], guard := some (8, true) }) (v := ?_) rfl (by kernel_rfl) (by kernel_rfl) (by kernel_rfl) (fun _ _ _ h => h) (Or.inl ⟨by rfl, ?_⟩) hHeld ?_
        rotate_left
        · intro w hSw; (try dsimp only at hSw); go_simp; first | done | with_reducible rfl
        try simp only [Act.put, List.setIfInBounds_toArray, List.set_cons_zero, List.set_cons_succ]
        refine wpAnyH_take (i := 11) (oi := { dst := some 64, op := Op.slice 28 (Operand.tmp 62) none (some (Operand.tmp 63)) none, type := 28, pos := "law.go:79", after := #[{ on := 9, ground := Ground.data }, { on := 10, ground := Ground.data }, { on := 8, ground := Ground.guard }], guard := some (8, true) }) (v := ?_) rfl (by kernel_rfl) (by kernel_rfl) (by kernel_rfl) (fun _ _ _ h => h) (Or.inl ⟨by rfl, ?_⟩) hHeld ?_
        rotate_left
        · intro w hSw; (try dsimp only at hSw); go_simp; first | done | with_reducible rfl
        try simp only [Act.put, List.setIfInBounds_toArray, List.set_cons_zero, List.set_cons_succ]
        refine wpAnyH_take (i := 12) (oi := { dst := some 65, op := Op.move (Operand.tmp 0), type := 28, pos := "law.go:79", after := #[{ on := 8, ground := Ground.guard }], guard := some (8, true) }) (v := ?_) rfl (by kernel_rfl) (by kernel_rfl) (by kernel_rfl) (fun _ _ _ h => h) (Or.inl ⟨by rfl, ?_⟩) hHeld ?_
        rotate_left
        · intro w hSw; (try dsimp only at hSw); go_simp; first | done | with_reducible rfl
        try simp only [Act.put, List.setIfInBounds_toArray, List.set_cons_zero, List.set_cons_succ]
        refine wpAnyH_take (i := 13) (oi := { dst := some 66, op := Op.move (Operand.tmp 10), type := 3, pos := "law.go:79", after := #[{ on := 8, ground := Ground.guard }], guard := some (8, true) }) (v := ?_) rfl (by kernel_rfl) (by kernel_rfl) (by kernel_rfl) (fun _ _ _ h => h) (Or.inl ⟨by rfl, ?_⟩) hHeld ?_
        rotate_left
        · intro w hSw; (try dsimp only at hSw); go_simp; first | done | with_reducible rfl
        try simp only [Act.put, List.setIfInBounds_toArray, List.set_cons_zero, List.set_cons_succ]
        refine wpAnyH_take (i := 14) (oi := { dst := some 67, op := Op.move (Operand.tmp 7), type := 3, pos := "law.go:79", after := #[{ on := 8, ground := Ground.guard }], guard := some (8, true) }) (v := ?_) rfl (by kernel_rfl) (by kernel_rfl) (by kernel_rfl) (fun _ _ _ h => h) (Or.inl ⟨by rfl, ?_⟩) hHeld ?_
        rotate_left
        · intro w hSw; (try dsimp only at hSw); go_simp; first | done | with_reducible rfl
        try simp only [Act.put, List.setIfInBounds_toArray, List.set_cons_zero, List.set_cons_succ]
        refine wpAnyH_take (i := 15) (oi := { dst := some 68, op := Op.slice 28 (Operand.tmp 65) (some (Operand.tmp 66)) (some (Operand.tmp 67)) none, type := 28, pos := "law.go:79", after := #[{ on := 12, ground := Ground.data }, { on := 13, ground := Ground.data }, { on := 14, ground := Ground.data }, { on := 8, ground := Ground.guard }], guard := some (8, true) }) (v := ?_) rfl (by kernel_rfl) (by kernel_rfl) (by kernel_rfl) (fun _ _ _ h => h) (Or.inl ⟨by rfl, ?_⟩) hHeld ?_
        rotate_left
        · intro w hSw; (try dsimp only at hSw); go_simp; first | done | with_reducible rfl
        try simp only [Act.put, List.setIfInBounds_toArray, List.set_cons_zero, List.set_cons_succ]
        refine wpAnyH_take (i := 16) (oi := { dst := some 69, op := Op.move (Operand.tmp 0), type := 28, pos := "law.go:79", after := #[{ on := 8, ground := Ground.guard }], guard := some (8, true) }) (v := ?_) rfl (by kernel_rfl) (by kernel_rfl) (by kernel_rfl) (fun _ _ _ h => h) (Or.inl ⟨by rfl, ?_⟩) hHeld ?_
        rotate_left
        · intro w hSw; (try dsimp only at hSw); go_simp; first | done | with_reducible rfl
        try simp only [Act.put, List.setIfInBounds_toArray, List.set_cons_zero, List.set_cons_succ]
        refine wpAnyH_take (i := 17) (oi := { dst := some 70, op := Op.move (Operand.tmp 7), type := 3, pos := "law.go:79", after := #[{ on := 8, ground := Ground.guard }], guard := some (8, true) }) (v := ?_) rfl (by kernel_rfl) (by kernel_rfl) (by kernel_rfl) (fun _ _ _ h => h) (Or.inl ⟨by rfl, ?_⟩) hHeld ?_
        rotate_left
        · intro w hSw; (try dsimp only at hSw); go_simp; first | done | with_reducible rfl
        try simp only [Act.put, List.setIfInBounds_toArray, List.set_cons_zero, List.set_cons_succ]
        refine wpAnyH_take (i := 18) (oi := { dst := some 71, op := Op.slice 28 (Operand.tmp 69) (some (Operand.tmp 70)) none none, type := 28, pos := "law.go:79", after := #[{ on := 16, ground := Ground.data }, { on := 17, ground := Ground.data }, { on := 8, ground := Ground.guard }], guard := some (8, true) }) (v := ?_) rfl (by kernel_rfl) (by kernel_rfl) (by kernel_rfl) (fun _ _ _ h => h) (Or.inl ⟨by rfl, ?_⟩) hHeld ?_
        rotate_left
        · intro w hSw; (try dsimp only at hSw); go_simp; first | done | with_reducible rfl
        try simp only [Act.put, List.setIfInBounds_toArray, List.set_cons_zero, List.set_cons_succ]
        refine wpAnyH_take (i := 21) (oi := { dst := some 74, op := Op.load 36 (Operand.tmp 5), type := 36, pos := "law.go:79", after := #[{ on := 8, ground := Ground.guard }], guard := some (8, true) }) (v := .agg C.toArray) rfl (by kernel_rfl) (by kernel_rfl) (by kernel_rfl) (fun _ _ _ h => h) (yieldsIf_load_mid (by rfl) _ _ rfl g 0 rfl C _ (fun w hS => hS.1) under36 rfl HINF.out) hHeld ?_
        try simp only [Act.put, List.setIfInBounds_toArray, List.set_cons_zero, List.set_cons_succ]
        refine wpAnyH_ready (rs := [19]) (by kernel_rfl) (by simp) ?_
        refine AllReadyH.cons (o := { dst := some 72, op := Op.buildSlice 62 4 #[(0, Operand.tmp 64), (1, Operand.const (Value.slice none 0 0)), (2, Operand.tmp 68), (3, Operand.tmp 71)], type := 62, pos := "law.go:79", after := #[{ on := 11, ground := Ground.data }, { on := 15, ground := Ground.data }, { on := 18, ground := Ground.data }, { on := 8, ground := Ground.guard }], guard := some (8, true) }) rfl (fun K hK => ?_) AllReadyH.nil
        clear hHeld
        go_simp
        refine hK.out _ _ (HS0.out _ (HBZ.out.alloc HBZ.out.size _)) (fun hHeld => ?_)
        clear hK K
        try simp only [Act.put, List.setIfInBounds_toArray, List.set_cons_zero, List.set_cons_succ]
        refine wpAnyH_ready (rs := [20]) (by kernel_rfl) (by simp) ?_
        refine AllReadyH.cons (o := { dst := some 73, op := Op.call { callee := Callee.value (Operand.func 21), args := #[Operand.tmp 72], argTypes := #[62] }, type := 36, pos := "law.go:79", after := #[{ on := 19, ground := Ground.data }, { on := 8, ground := Ground.chain }, { on := 8, ground := Ground.guard }], guard := some (8, true) }) rfl (fun K hK => ?_) AllReadyH.nil
        clear hHeld
        go_simp
        refine (HOF.out _ HBZ.out).mono ?_
        rintro e wD ⟨rfl, hBX⟩
        have HBD := hide ((HBZ.out.alloc HBZ.out.size _).trans (hBX.mono (by have := HBZ.out.size; simp; omega)))
        clear hBX
        dsimp only
        refine hK.out _ _ (HS0.out _ HBD.out) (fun hHeld => ?_)
        clear hK K
        try simp only [Act.put, List.setIfInBounds_toArray, List.set_cons_zero, List.set_cons_succ]
        refine wpAnyH_take (i := 22) (oi := { dst := some 75, op := Op.binOp BinOp.eql 36 (Operand.tmp 73) (Operand.tmp 74) 36, type := 4, pos := "law.go:79", after := #[{ on := 20, ground := Ground.data }, { on := 21, ground := Ground.data }, { on := 8, ground := Ground.guard }], guard := some (8, true) }) (v := ?_) rfl (by kernel_rfl) (by kernel_rfl) (by kernel_rfl) (fun _ _ _ h => h) (Or.inl ⟨by rfl, ?_⟩) hHeld ?_
        rotate_left
        · intro w hSw; (try dsimp only at hSw); go_simp; first | done | with_reducible rfl
        try simp only [Act.put, List.setIfInBounds_toArray, List.set_cons_zero, List.set_cons_succ]
        refine wpAnyH_take (i := 23) (oi := { dst := some 76, op := Op.pick (Operand.tmp 61) (Operand.tmp 75) (Operand.const (Value.bool false)), type := 4, pos := "law.go:79", after := #[{ on := 8, ground := Ground.data }, { on := 22, ground := Ground.data }], guard := none }) (v := ?_) rfl (by kernel_rfl) (by kernel_rfl) (by kernel_rfl) (fun _ _ _ h => h) (Or.inl ⟨by rfl, ?_⟩) hHeld ?_
        rotate_left
        · intro w hSw; (try dsimp only at hSw); go_simp; first | done | with_reducible rfl
        try simp only [Act.put, List.setIfInBounds_toArray, List.set_cons_zero, List.set_cons_succ]
        refine wpAnyH_take (i := 24) (oi := { dst := some 77, op := Op.move (Operand.tmp 76), type := 4, pos := "law.go:79", after := #[{ on := 23, ground := Ground.data }, { on := 20, ground := Ground.chain }], guard := none }) (v := ?_) rfl (by kernel_rfl) (by kernel_rfl) (by kernel_rfl) (fun _ _ _ h => h) (Or.inl ⟨by rfl, ?_⟩) hHeld ?_
        rotate_left
        · intro w hSw; (try dsimp only at hSw); go_simp; first | done | with_reducible rfl
        try simp only [Act.put, List.setIfInBounds_toArray, List.set_cons_zero, List.set_cons_succ]
        refine wpAnyH_ready (rs := [25]) (by kernel_rfl) (by simp) ?_
        refine AllReadyH.cons (o := { dst := some 78, op := Op.call { callee := Callee.value (Operand.func 16), args := #[], argTypes := #[] }, type := 4, pos := "law.go:79", after := #[{ on := 24, ground := Ground.chain }, { on := 24, ground := Ground.guard }], guard := some (24, true) }) rfl (fun K hK => ?_) AllReadyH.nil
        clear hHeld
        go_simp
        refine (awake_any _).mono ?_
        rintro e wE ⟨rfl, hBX⟩
        have HBE := hide (HBD.out.trans (hBX.mono HBD.out.size))
        clear hBX
        dsimp only
        refine hK.out _ _ (HS0.out _ HBE.out) (fun hHeld => ?_)
        clear hK K
        try simp only [Act.put, List.setIfInBounds_toArray, List.set_cons_zero, List.set_cons_succ]
        refine wpAnyH_take (i := 26) (oi := { dst := some 79, op := Op.pick (Operand.tmp 77) (Operand.tmp 78) (Operand.const (Value.bool false)), type := 4, pos := "law.go:79", after := #[{ on := 24, ground := Ground.data }, { on := 25, ground := Ground.data }], guard := none }) (v := ?_) rfl (by kernel_rfl) (by kernel_rfl) (by kernel_rfl) (fun _ _ _ h => h) (Or.inl ⟨by rfl, ?_⟩) hHeld ?_
        rotate_left
        · intro w hSw; (try dsimp only at hSw); go_simp; first | done | with_reducible rfl
        try simp only [Act.put, List.setIfInBounds_toArray, List.set_cons_zero, List.set_cons_succ]
        refine wpAnyH_take (i := 27) (oi := { dst := some 4, op := Op.assign (Operand.tmp 79), type := 4, pos := "law.go:79", after := #[{ on := 26, ground := Ground.data }, { on := 25, ground := Ground.chain }, { on := 0, ground := Ground.phase }, { on := 1, ground := Ground.phase }, { on := 2, ground := Ground.phase }, { on := 3, ground := Ground.phase }, { on := 4, ground := Ground.phase }, { on := 5, ground := Ground.phase }, { on := 6, ground := Ground.phase }, { on := 7, ground := Ground.phase }, { on := 8, ground := Ground.phase }, { on := 9, ground := Ground.phase }, { on := 10, ground := Ground.phase }, { on := 11, ground := Ground.phase }, { on := 12, ground := Ground.phase }, { on := 13, ground := Ground.phase }, { on := 14, ground := Ground.phase }, { on := 15, ground := Ground.phase }, { on := 16, ground := Ground.phase }, { on := 17, ground := Ground.phase }, { on := 18, ground := Ground.phase }, { on := 19, ground := Ground.phase }, { on := 20, ground := Ground.phase }, { on := 21, ground := Ground.phase }, { on := 22, ground := Ground.phase }, { on := 23, ground := Ground.phase }, { on := 24, ground := Ground.phase }, { on := 25, ground := Ground.phase }, { on := 26, ground := Ground.phase }], guard := none }) (v := ?_) rfl (by kernel_rfl) (by kernel_rfl) (by kernel_rfl) (fun _ _ _ h => h) (Or.inl ⟨by rfl, ?_⟩) hHeld ?_
        rotate_left
        · intro w hSw; (try dsimp only at hSw); go_simp; first | done | with_reducible rfl
        try simp only [Act.put, List.setIfInBounds_toArray, List.set_cons_zero, List.set_cons_succ]
        refine wpAnyH_done (by kernel_rfl) ?_ _
        go_wp2_with fail
        go_ret
        exact ⟨rfl, HB.out.trans (HBE.out.mono HB.out.size)⟩
end Go.Proofs.Yteocienbfhgmjaa
