/- The law ShaBlocks: its walk. -/
import Derived.Test.YteocienbfhgmjaaProg
import Derived.Test.YteocienbfhgmjaaAwake
import Derived.Test.YteocienbfhgmjaaSum
import Derived.Test.YteocienbfhgmjaaBlocks
import Derived.Test.YteocienbfhgmjaaArgs
import Derived.Test.YteocienbfhgmjaaPl
import Derived.Deep.RegionHeld3
namespace Go.Proofs.Yteocienbfhgmjaa
open Go.RowKit

theorem SlAt.front {w : World} {ao : Option Addr} {n c : Nat} {xs : List Int} (h : SlAt w (.slice ao n c) xs) {m : Nat} (hm : m ≤ n) : SlAt w (.slice ao m c) (xs.take m) := by
  obtain ⟨ao', cap, hv, hn, hc, ha⟩ := h
  simp at hv
  obtain ⟨rfl, rfl, rfl⟩ := hv
  refine ⟨ao, c, by simp [Nat.min_eq_left hm], fun h => by simp [(hn h).1, (hn h).2], by simp; omega, fun ad had i hi => ?_⟩
  have hi2 : i < m := by simp at hi; omega
  obtain ⟨h1, h2, h3⟩ := ha ad had i (by omega)
  refine ⟨h1, h2, h3.trans ?_⟩
  have hl : i < xs.length := by omega
  simp [nth, List.getD, hi2, hl]

theorem add_add (a : Addr) (h : a.spot = none) (i j : Nat) : (a.add i).add j = a.add (i + j) := by
  obtain ⟨b, o, s⟩ := a
  cases h
  rw [addr_plain, addr_plain, addr_plain, Nat.add_assoc]

theorem SlAt.sub {w : World} {ao : Option Addr} {n c : Nat} {xs : List Int} (h : SlAt w (.slice ao n c) xs) {lo m : Nat} (hm : lo + m ≤ n) (h0 : lo < c) : SlAt w (.slice (ao.map (fun x => x.add lo)) m (c - lo)) ((xs.drop lo).take m) := by
  obtain ⟨ao', cap, hv, hn, hc, ha⟩ := h
  simp at hv
  obtain ⟨rfl, rfl, rfl⟩ := hv
  cases ao with
  | none => obtain ⟨_, h2⟩ := hn rfl; omega
  | some ad =>
    refine ⟨some (ad.add lo), c - lo, by simp; omega, (fun h => by cases h), by simp; omega, fun ad' had i hi => ?_⟩
    cases had
    have hi2 : i < m := by simp at hi; omega
    obtain ⟨h1, h2, h3⟩ := ha ad rfl (lo + i) (by omega)
    refine ⟨?_, ?_, ?_⟩
    · obtain ⟨b, o, s⟩ := ad
      cases h1
      rw [addr_plain]
    · unfold Addr.add
      split <;> exact h2
    · rw [add_add ad h1, h3]
      have hl : lo + i < xs.length := by omega
      simp [nth, List.getD, hi2, hl]

theorem blk_set8 {w : World} {g g' : Nat} {t : TypeId} {k : IntKind} {l : List Int} {v0 v1 v2 v3 v4 v5 v6 v7 : Value} (h : Blk w g t k l) (hne : g ≠ g') : Blk ((((((((w.setCell ⟨g', 0, none⟩ v0).setCell ⟨g', 1, none⟩ v1).setCell ⟨g', 2, none⟩ v2).setCell ⟨g', 3, none⟩ v3).setCell ⟨g', 4, none⟩ v4).setCell ⟨g', 5, none⟩ v5).setCell ⟨g', 6, none⟩ v6).setCell ⟨g', 7, none⟩ v7) g t k l :=
  ((((((((h.other ⟨g', 0, none⟩ v0 hne).other ⟨g', 1, none⟩ v1 hne).other ⟨g', 2, none⟩ v2 hne).other ⟨g', 3, none⟩ v3 hne).other ⟨g', 4, none⟩ v4 hne).other ⟨g', 5, none⟩ v5 hne).other ⟨g', 6, none⟩ v6 hne).other ⟨g', 7, none⟩ v7 hne)

theorem below_set8 {B : Nat} {a w : World} {g' : Nat} {v0 v1 v2 v3 v4 v5 v6 v7 : Value} (h : Below B a w) (hg : B ≤ g') : Below B a ((((((((w.setCell ⟨g', 0, none⟩ v0).setCell ⟨g', 1, none⟩ v1).setCell ⟨g', 2, none⟩ v2).setCell ⟨g', 3, none⟩ v3).setCell ⟨g', 4, none⟩ v4).setCell ⟨g', 5, none⟩ v5).setCell ⟨g', 6, none⟩ v6).setCell ⟨g', 7, none⟩ v7) :=
  ((((((((h.setCell (p := ⟨g', 0, none⟩) hg v0).setCell (p := ⟨g', 1, none⟩) hg v1).setCell (p := ⟨g', 2, none⟩) hg v2).setCell (p := ⟨g', 3, none⟩) hg v3).setCell (p := ⟨g', 4, none⟩) hg v4).setCell (p := ⟨g', 5, none⟩) hg v5).setCell (p := ⟨g', 6, none⟩) hg v6).setCell (p := ⟨g', 7, none⟩) hg v7)

theorem slAt_nil (w : World) : SlAt w (.slice none 0 0) [] := ⟨none, 0, rfl, fun _ => ⟨rfl, rfl⟩, Nat.le_refl _, fun ad h => by cases h⟩

/-- Behind Write of whole blocks to a new Sha. -/
def WholePost (X : List Int) (k j : Nat) (w : World) (e : Ending) (w' : World) : Prop :=
  ∃ ap cap, e = .returned (shaV (stAt firstS X k) (.slice ap 0 cap) j) ∧ Below w.heap.size w w'

theorem write_whole (X : List Int) (v : Value) (k j : Nat) (w : World) (hl : X.length = j) (hj : j = 64 * k) (h2 : j ≤ 2000) (hx : SlAt w v X) :
    Calls Try.prog 23 #[shaV firstS (.slice none 0 0) 0, v] w (WholePost X k j w) := by
  refine (write_any firstS [] X (.slice none 0 0) v 0 w rfl (slAt_nil w) hx (by simp; omega)).mono ?_
  rintro e w' ⟨ap, cap, rfl, _, hB⟩
  rw [List.nil_append, show X.length / 64 = k by omega, show X.length % 64 = 0 by omega, show IntKind.u64.wrap (((0 : Nat) : Int) + (X.length : Int)) = (j : Int) by rw [IntKind.wrap_u64]; omega]
  exact ⟨ap, cap, rfl, hB⟩

set_option maxRecDepth 100000 in
set_option maxHeartbeats 1000000 in
theorem blocks_walk (xs : List Int) (v : Value) (w : World) (hx : SlAt w v xs) (hm : xs.length ≤ maxLen) :
    Calls Try.prog 10 #[v] w (LawPost w) := by
  obtain ⟨ao, cap, rfl⟩ := hx.len
  have HX := hide hx
  obtain ⟨n, hn⟩ : ∃ n, n = xs.length := ⟨_, rfl⟩
  have HN := hide hn
  rw [← hn] at HX hm ⊢
  unfold maxLen at hm
  clear hx hn
  go_enter Try.func10, Try.ntmps10
  by_cases hbig : 2000 < n
  · go_wp2_with fail
    refine (awake_any _).mono ?_
    rintro e w1 ⟨rfl, hB⟩
    go_wp2_with fail
    go_ret
    exact ⟨rfl, hB⟩
  · have hcap : (n : Int) / 64 * 64 ≤ (cap : Int) := by obtain ⟨_, _, hv, _, hc, _⟩ := HX.out; simp at hv; omega
    have hge : (0 : Int) ≤ (n : Int) / 64 * 64 := by omega
    go_wp2_with (first | (with_reducible refine wpList_alloc_row rfl 24 rfl (cellsOf .u32 zeros8) zero24 ?_))
    refine (first_any _).mono ?_
    rintro e w1 ⟨rfl, hB⟩
    go_wp2_with (first | (with_reducible refine wpList_alloc_row rfl 24 rfl (cellsOf .u32 zeros8) zero24 ?_) | (with_reducible refine wpList_store_row rfl 24 (.tmp 3) (.tmp 18) rfl w1.heap.size (cellsOf .u32 firstS) rfl rfl _ _ (heap_alloc_new _ _) (sz24 firstS rfl) (szZ8 firstS rfl) (oneCell_cellsOf _ _) ?_))
    obtain ⟨W0, hW0⟩ : ∃ W0, W0 = (w1.alloc (.cells (cellsOf .u32 zeros8) 24)).setRow w1.heap.size (cellsOf .u32 firstS) := ⟨_, rfl⟩
    have hb0 : Blk W0 w1.heap.size 24 .u32 firstS := by rw [hW0]; exact (Blk.new w1 _ .u32 zeros8).setRow firstS
    have hB0 : Below w.heap.size w W0 := by rw [hW0]; exact below_setRow (hB.alloc hB.size _) hB.size _
    have hg := hB.size
    rw [← hW0]
    clear hW0 hB hge
    generalize w1.heap.size = g at hb0 hg ⊢
    obtain ⟨m, hm2⟩ : ∃ m, m = n / 64 := ⟨_, rfl⟩
    rw [← hm2]
    have hq : m * 64 ≤ n := by omega
    have hqc : m * 64 ≤ cap := by omega
    have HX2 := hide (HX.out.front hq)
    have hl2 : (xs.take (m * 64)).length = m * 64 := by have := HN.out; simp; omega
    obtain ⟨X, hX⟩ : ∃ X, X = xs.take (m * 64) := ⟨_, rfl⟩
    rw [← hX] at HX2 hl2
    obtain ⟨q, hqm⟩ : ∃ q, q = m * 64 := ⟨_, rfl⟩
    rw [← hqm] at HX2 hl2 hqc ⊢
    have hq2 : q ≤ 2000 := by omega
    have HL2 := hide hl2
    have HQ := hide hqm
    clear hX hl2 hm2 hcap hq HX HN hm hqm
    generalize (n : Int) / 64 = n64
    generalize (n : Int) = nI
    go_loopw [4] (fun i wr => ∃ k j : Nat, k ≤ m ∧ j = 64 * k ∧ i = .int .i64 (j : Int) ∧ Blk wr g 24 .u32 (stAt firstS X k) ∧ Below w.heap.size w wr) (fun i _ => q - (intOf i).toNat)
    case atStart => exact ⟨0, 0, Nat.zero_le _, rfl, rfl, hb0, hB0⟩
    case round =>
      obtain ⟨k, j, hk, hj, rfl, hbk, hB⟩ := hrel
      clear hb0 hB0 W0
      have hstep : j < q → j + 64 ≤ q ∧ k + 1 ≤ m := by have := HQ.out; omega
      have hend : ¬ j < q → k = m := by have := HQ.out; omega
      have HJ := hide hj
      have HK := hide hk
      clear hj hk
      by_cases hlt : j < q
      · obtain ⟨h64, hk1⟩ := hstep hlt
        clear hstep hend
        have HK1 := hide hk1
        clear hk1
        have hi1 : (j : Int) + 64 ≤ (cap : Int) := by omega
        have hi2 : (j : Int) ≤ (j : Int) + 64 := by omega
        have hi3 : (0 : Int) ≤ (j : Int) + 64 := by omega
        have hi4 : ((j : Int) + 64).toNat = j + 64 := by omega
        have hi5 : ¬ cap = j := by omega
        have hi6 : j + 64 - j = 64 := by omega
        have hi7 : IntKind.i64.wrap ((j : Int) + 64) = (j : Int) + 64 := by rw [IntKind.wrap_i64]; omega
        have hi8 : j ≤ j + 64 := by omega
        have HSUB := hide (HX2.out.sub h64 (by omega))
        have HL64 : Hid (((X.drop j).take 64).length = 64) := hide (by have := HL2.out; simp; omega)
        go_wp2_with fail
        obtain ⟨st, hst⟩ : ∃ st, st = stAt firstS X k := ⟨_, rfl⟩
        have hl8 : st.length = 8 := by rw [hst]; exact length_stAt _ _ rfl _
        rw [← hst] at hbk
        have HST := hide hst
        clear hst
        obtain ⟨a0, a1, a2, a3, a4, a5, a6, a7, rfl⟩ := list8 hl8
        clear hl8
        have c0 : wr.cell? ⟨g, 0, none⟩ = some (.int .u32 a0) := hbk.cell 0 (by simp)
        have c1 : wr.cell? ⟨g, 1, none⟩ = some (.int .u32 a1) := hbk.cell 1 (by simp)
        have c2 : wr.cell? ⟨g, 2, none⟩ = some (.int .u32 a2) := hbk.cell 2 (by simp)
        have c3 : wr.cell? ⟨g, 3, none⟩ = some (.int .u32 a3) := hbk.cell 3 (by simp)
        have c4 : wr.cell? ⟨g, 4, none⟩ = some (.int .u32 a4) := hbk.cell 4 (by simp)
        have c5 : wr.cell? ⟨g, 5, none⟩ = some (.int .u32 a5) := hbk.cell 5 (by simp)
        have c6 : wr.cell? ⟨g, 6, none⟩ = some (.int .u32 a6) := hbk.cell 6 (by simp)
        have c7 : wr.cell? ⟨g, 7, none⟩ = some (.int .u32 a7) := hbk.cell 7 (by simp)
        have HB := hide hB
        have HBK := hide hbk
        have hgl : g < wr.heap.size := hbk.lt
        clear hbk hB
        go_region_held3 (fun w' => w'.cell? ⟨g, 0, none⟩ = some (.int .u32 a0) ∧ w'.cell? ⟨g, 1, none⟩ = some (.int .u32 a1) ∧ w'.cell? ⟨g, 2, none⟩ = some (.int .u32 a2) ∧ w'.cell? ⟨g, 3, none⟩ = some (.int .u32 a3) ∧ w'.cell? ⟨g, 4, none⟩ = some (.int .u32 a4) ∧ w'.cell? ⟨g, 5, none⟩ = some (.int .u32 a5) ∧ w'.cell? ⟨g, 6, none⟩ = some (.int .u32 a6) ∧ w'.cell? ⟨g, 7, none⟩ = some (.int .u32 a7))
          (go_keep)
          (first | (go_at_call 17; refine (block_good [a0, a1, a2, a3, a4, a5, a6, a7] ((X.drop j).take 64) _ _ rfl (HSUB.out.below (by first | exact HB.out.drew | exact HB.out.drew.alloc HB.out.size _)) HL64.out).mono ?_; rintro e wB ⟨rfl, hBX⟩; (have hBY : Below wr.heap.size wr wB := (by first | exact (Below.refl _ _).drew.trans hBX | exact ((Below.refl _ _).drew.alloc (Nat.le_refl _) _).trans (hBX.mono (by simp)))); have d0 : wB.cell? ⟨g, 0, none⟩ = some (.int .u32 a0) := (hBY.cell (p := ⟨g, 0, none⟩) hgl).trans c0; have d1 : wB.cell? ⟨g, 1, none⟩ = some (.int .u32 a1) := (hBY.cell (p := ⟨g, 1, none⟩) hgl).trans c1; have d2 : wB.cell? ⟨g, 2, none⟩ = some (.int .u32 a2) := (hBY.cell (p := ⟨g, 2, none⟩) hgl).trans c2; have d3 : wB.cell? ⟨g, 3, none⟩ = some (.int .u32 a3) := (hBY.cell (p := ⟨g, 3, none⟩) hgl).trans c3; have d4 : wB.cell? ⟨g, 4, none⟩ = some (.int .u32 a4) := (hBY.cell (p := ⟨g, 4, none⟩) hgl).trans c4; have d5 : wB.cell? ⟨g, 5, none⟩ = some (.int .u32 a5) := (hBY.cell (p := ⟨g, 5, none⟩) hgl).trans c5; have d6 : wB.cell? ⟨g, 6, none⟩ = some (.int .u32 a6) := (hBY.cell (p := ⟨g, 6, none⟩) hgl).trans c6; have d7 : wB.cell? ⟨g, 7, none⟩ = some (.int .u32 a7) := (hBY.cell (p := ⟨g, 7, none⟩) hgl).trans c7; have HBK2 := hide (HBK.out.below hBY hgl); have HBB := hide (HB.out.trans (hBY.mono HB.out.size)); have hgl2 : g < wB.heap.size := HBK2.out.lt; (first | (have HA2 : Blk wB wr.heap.size 24 .u32 zeros8 := new8 (W := wr.drew) hBX; have hz2 : wr.heap.size < wB.heap.size := HA2.lt; have hgn : g ≠ wr.heap.size := (by omega); have hgn2 : wr.heap.size ≠ g := (by omega); have e0 : wB.cell? ⟨wr.heap.size, 0, none⟩ = some (.int .u32 0) := HA2.cell 0 (by decide); have e1 : wB.cell? ⟨wr.heap.size, 1, none⟩ = some (.int .u32 0) := HA2.cell 1 (by decide); have e2 : wB.cell? ⟨wr.heap.size, 2, none⟩ = some (.int .u32 0) := HA2.cell 2 (by decide); have e3 : wB.cell? ⟨wr.heap.size, 3, none⟩ = some (.int .u32 0) := HA2.cell 3 (by decide); have e4 : wB.cell? ⟨wr.heap.size, 4, none⟩ = some (.int .u32 0) := HA2.cell 4 (by decide); have e5 : wB.cell? ⟨wr.heap.size, 5, none⟩ = some (.int .u32 0) := HA2.cell 5 (by decide); have e6 : wB.cell? ⟨wr.heap.size, 6, none⟩ = some (.int .u32 0) := HA2.cell 6 (by decide); have e7 : wB.cell? ⟨wr.heap.size, 7, none⟩ = some (.int .u32 0) := HA2.cell 7 (by decide); have f0 : wB.frozen? ⟨wr.heap.size, 0, none⟩ = false := HA2.free 0; have f1 : wB.frozen? ⟨wr.heap.size, 1, none⟩ = false := HA2.free 1; have f2 : wB.frozen? ⟨wr.heap.size, 2, none⟩ = false := HA2.free 2; have f3 : wB.frozen? ⟨wr.heap.size, 3, none⟩ = false := HA2.free 3; have f4 : wB.frozen? ⟨wr.heap.size, 4, none⟩ = false := HA2.free 4; have f5 : wB.frozen? ⟨wr.heap.size, 5, none⟩ = false := HA2.free 5; have f6 : wB.frozen? ⟨wr.heap.size, 6, none⟩ = false := HA2.free 6; have f7 : wB.frozen? ⟨wr.heap.size, 7, none⟩ = false := HA2.free 7; clear HA2) | skip); clear hBX hBY; obtain ⟨tk, htk⟩ : ∃ tk, tk = takeS [a0, a1, a2, a3, a4, a5, a6, a7] keysS ((X.drop j).take 64) := ⟨_, rfl⟩; have hl8 : tk.length = 8 := (by rw [htk]; exact length_takeS _ _ _); rw [← htk]; have HTK := hide htk; clear htk; obtain ⟨b0, b1, b2, b3, b4, b5, b6, b7, rfl⟩ := list8 hl8; clear hl8; rw [show cellsOf .u32 [b0, b1, b2, b3, b4, b5, b6, b7] = #[.int .u32 b0, .int .u32 b1, .int .u32 b2, .int .u32 b3, .int .u32 b4, .int .u32 b5, .int .u32 b6, .int .u32 b7] from rfl]))
        all_goals go_wp2_with (refine wpList_store_blk rfl 24 (.tmp 3) (.tmp 37) rfl g .u32 [b0, b1, b2, b3, b4, b5, b6, b7] rfl rfl _ [a0, a1, a2, a3, a4, a5, a6, a7] (by with_reducible first | exact HBK2.out.alloc _ | exact blk_set8 HBK2.out hgn) (sz24 _ rfl) rfl ?_)
        all_goals
          intro w5 hb5 hz5 hB5 hk5
          have hgr : w.heap.size ≤ wr.heap.size := HB.out.size
          have hBF : Below w.heap.size w w5 := by
            refine Below.trans ?_ (hB5 _ hg)
            with_reducible first | exact HBB.out.alloc HBB.out.size _ | exact below_set8 HBB.out hgr
          have hbF : Blk w5 g 24 .u32 (stAt firstS X (k + 1)) := by
            rw [stAt, ← HJ.out, ← HST.out, ← HTK.out]; exact hb5
          have HF := hide (And.intro hbF hBF)
          clear hb5 hz5 hB5 hk5 hbF hBF c0 c1 c2 c3 c4 c5 c6 c7 d0 d1 d2 d3 d4 d5 d6 d7
          try clear e0 e1 e2 e3 e4 e5 e6 e7 f0 f1 f2 f3 f4 f5 f6 f7
          go_wp2_with fail
          go_roundw
          case rel => exact ⟨k + 1, j + 64, HK1.out, by have := HJ.out; omega, by go_num, HF.out.1, HF.out.2⟩
          case measure => simp [intOf]; omega
      · have hkm : k = m := hend hlt
        subst hkm
        have hst : (64 * k = q) := by have := HQ.out; omega
        clear hstep hend hlt
        have hjq : j = q := by have := HJ.out; omega
        subst hjq
        go_wp2_with fail
        refine (new_any _).mono ?_
        rintro e w2 ⟨rfl, hB2⟩
        have hb2 := hbk.below hB2 hbk.lt
        have hBB2 := below_through hB2 hB
        have HWR := hide (write_whole X (.slice ao j cap) k j w2 HL2.out HJ.out hq2 (HX2.out.below hBB2))
        clear hbk hB hB2 hst
        go_wp2_with fail
        refine HWR.out.mono ?_
        rintro e w3 ⟨ap, cq, rfl, hB3⟩
        replace hb2 := hb2.below hB3 hb2.lt
        replace hBB2 := below_through hB3 hBB2
        clear hB3 HWR
        have hl8 : (stAt firstS X k).length = 8 := length_stAt _ _ rfl _
        generalize stAt firstS X k = st at hl8 hb2 ⊢
        obtain ⟨a0, a1, a2, a3, a4, a5, a6, a7, rfl⟩ := list8 hl8
        clear hl8
        rw [show shaV [a0, a1, a2, a3, a4, a5, a6, a7] (.slice ap 0 cq) j = .agg #[.int .u32 a0, .int .u32 a1, .int .u32 a2, .int .u32 a3, .int .u32 a4, .int .u32 a5, .int .u32 a6, .int .u32 a7, .slice ap 0 cq, .int .u64 j] from rfl]
        have hgl : g < w3.heap.size := hb2.lt
        have c0 : w3.cell? ⟨g, 0, none⟩ = some (.int .u32 a0) := hb2.cell 0 (by simp)
        have c1 : w3.cell? ⟨g, 1, none⟩ = some (.int .u32 a1) := hb2.cell 1 (by simp)
        have c2 : w3.cell? ⟨g, 2, none⟩ = some (.int .u32 a2) := hb2.cell 2 (by simp)
        have c3 : w3.cell? ⟨g, 3, none⟩ = some (.int .u32 a3) := hb2.cell 3 (by simp)
        have c4 : w3.cell? ⟨g, 4, none⟩ = some (.int .u32 a4) := hb2.cell 4 (by simp)
        have c5 : w3.cell? ⟨g, 5, none⟩ = some (.int .u32 a5) := hb2.cell 5 (by simp)
        have c6 : w3.cell? ⟨g, 6, none⟩ = some (.int .u32 a6) := hb2.cell 6 (by simp)
        have c7 : w3.cell? ⟨g, 7, none⟩ = some (.int .u32 a7) := hb2.cell 7 (by simp)
        have HB := hide hBB2
        clear hb2 hBB2
        have heq : ∀ w, (Op.equalIn 10000 24 (.agg #[.int .u32 a0, .int .u32 a1, .int .u32 a2, .int .u32 a3, .int .u32 a4, .int .u32 a5, .int .u32 a6, .int .u32 a7]) (.agg #[.int .u32 a0, .int .u32 a1, .int .u32 a2, .int .u32 a3, .int .u32 a4, .int .u32 a5, .int .u32 a6, .int .u32 a7])).run Try.prog w = .ok true w := fun w => by
          have h := run_equalIn_cells (P := Try.prog) 9998 24 23 8 .u32 Try.underlying24 Try.underlying23 size23 [a0, a1, a2, a3, a4, a5, a6, a7] [a0, a1, a2, a3, a4, a5, a6, a7] rfl rfl w
          rw [beq_self_eq_true] at h
          exact h
        go_wp2_with fail
        refine (awake_any _).mono ?_
        rintro e w4 ⟨rfl, hB4⟩
        have hBF := below_through hB4 (HB.out.alloc HB.out.size _)
        clear hB4
        go_wp2_with fail
        go_ret
        exact ⟨rfl, hBF⟩
end Go.Proofs.Yteocienbfhgmjaa
