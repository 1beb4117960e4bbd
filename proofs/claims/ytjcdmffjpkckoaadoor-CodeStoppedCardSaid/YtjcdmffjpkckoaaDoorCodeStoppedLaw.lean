/- The law CodeStopped, walked. -/
import Derived.Test.YtjcdmffjpkckoaaDoorCdCuts
import Derived.Test.YtjcdmffjpkckoaaDoorCdAwake
namespace Go.Proofs.YtjcdmffjpkckoaaDoor
open Go.RowKit

theorem and3 (a : Int) : ∃ m : Int, bits BinOp.and IntKind.i64 a 3 = m := ⟨_, rfl⟩

set_option maxRecDepth 100000 in
set_option maxHeartbeats 8000000 in
theorem stopped_walk (xs : List Int) (l : List Fld) (by_ : Int) (sv lv : Value) (w : World) (ht : Tab w) (hxs : SlAt w sv xs) (hxr : ∀ x ∈ xs, 0 ≤ x ∧ x < 256) (_ : xs.length ≤ maxLen) (hlv : FAt w lv l) (hl : ∀ f ∈ l, f.ok) (_ : (Lit.int .i64 by_).wf = true) :
    Calls Tryd.prog 8 #[sv, lv, .int .i64 by_] w (LawPost w) := by
  have h2 := ht.two
  obtain ⟨ao, cap, rfl⟩ := hxs.len
  obtain ⟨al, capl, rfl⟩ := hlv.len
  have HL := hide (long_any l _ w hlv hl)
  have HAW0 := hide (awake_any w ht)
  have HX := hide hxs
  have HF := hide hlv
  have HXR := hide hxr
  obtain ⟨n, hn⟩ : ∃ n, n = l.length := ⟨_, rfl⟩
  rw [← hn] at HF HL ⊢
  have HN := hide hn
  clear hxs hlv hxr hl hn
  by_cases hlong : 1000 < cnt l
  · rw [decide_eq_true hlong] at HL
    go_enter Tryd.func8, Tryd.ntmps8
    go_wp2_with fail
    refine HL.out.mono ?_
    rintro e w ⟨rfl, rfl⟩
    go_wp2_with fail
    refine HAW0.out.mono ?_
    rintro e w1 ⟨rfl, hB⟩
    go_wp2_with fail
    go_ret
    exact ⟨rfl, hB⟩
  rw [decide_eq_false hlong] at HL
  have hn1000 : n ≤ 1000 := by have := cnt_len l; have := HN.out; omega
  clear hlong
  by_cases hbig : 20000 < xs.length
  · have hbi : (xs.length : Int) > 20000 := by omega
    go_enter Tryd.func8, Tryd.ntmps8
    go_wp2_with fail
    refine HL.out.mono ?_
    rintro e w ⟨rfl, rfl⟩
    go_wp2_with fail
    refine HAW0.out.mono ?_
    rintro e w1 ⟨rfl, hB⟩
    go_wp2_with fail
    go_ret
    exact ⟨rfl, hB⟩
  have hbi : ¬ (xs.length : Int) > 20000 := by omega
  have HNR := hide (newReader_any _ xs w HX.out (by omega))
  go_enter Tryd.func8, Tryd.ntmps8
  go_wp2_with fail
  refine HL.out.mono ?_
  rintro e w ⟨rfl, rfl⟩
  go_wp2_with fail
  refine HNR.out.mono ?_
  rintro e w1 ⟨g, rfl, hB1, hR1⟩
  have HR1 := hide hR1
  have HB1 := hide hB1
  clear hR1 hB1 HNR HL HAW0
  obtain ⟨F, hF⟩ : ∃ F : Nat → Prop, F = fun k => w.heap.size ≤ k ∧ k < w1.heap.size := ⟨_, rfl⟩
  have HFB : Hid (∀ k, F k → w.heap.size ≤ k) := hide (by rw [hF]; exact fun k h => h.1)
  obtain ⟨B0, hB0⟩ : ∃ B0, B0 = w.heap.size := ⟨_, rfl⟩
  have HR1 := hide (show Rd w1 B0 F g xs false by rw [hF, hB0]; exact HR1.out)
  clear hF hB0
  obtain ⟨m, hm⟩ := and3 by_
  by_cases h0 : m = 0
  · subst h0
    go_wp2_with fail
    refine (fail_any w1 _ _ _ _ _ HR1.out).mono ?_
    rintro e w2 ⟨rfl, hK, hN⟩
    have HRw2 := hide hN
    have HBw2 := hide (hK.through HB1.out (fun k h => HFB.out k h) HB1.out.size)
    clear hK hN HR1 HB1
    go_wp2_with fail
    go_loopw [8] (fun i wr => ∃ k : Nat, k ≤ n ∧ i = .int .i64 k ∧ Hid (Rd wr B0 F g xs true) ∧ Hid (Below w.heap.size w wr))
        (fun i _ => n - (intOf i).toNat)
    case atStart => exact ⟨0, by omega, rfl, HRw2, HBw2⟩
    case round =>
      clear HRw2 HBw2
      obtain ⟨k, hk, rfl, HRwr, HBwr⟩ := hrel
      by_cases hlt : k < n
      · obtain ⟨fb, fo, rfl, hfb, c0, c1, c2, c3, c4⟩ := HF.out.at hlt
        generalize l.getD k default = f at c0 c1 c2 c3 c4
        have HC1 := hide c1
        clear c0 c1 c2 c3 c4
        go_wp2_with fail
        refine (r8_stop wr _ _ _ _ HRwr.out).mono ?_
        rintro e u0 ⟨rfl, hX⟩
        have HRu0 := hide (HRwr.out.keep (Keep.of_below hX : Keep (fun _ => False) wr u0) (fun _ _ => id))
        have HBu0 := hide (HBwr.out.trans (hX.mono HBwr.out.size))
        clear hX HRwr HBwr
        have hcu0 : u0.cell? ⟨fb, fo + k * 5 + 1, none⟩ = some (.int .i64 f.most) := (HBu0.out.cell (p := ⟨fb, fo + k * 5 + 1, none⟩) hfb).trans HC1.out
        go_wp2_with fail
        refine (r32_stop u0 _ _ _ _ HRu0.out).mono ?_
        rintro e u1 ⟨rfl, hX⟩
        have HRu1 := hide (HRu0.out.keep (Keep.of_below hX : Keep (fun _ => False) u0 u1) (fun _ _ => id))
        have HBu1 := hide (HBu0.out.trans (hX.mono HBu0.out.size))
        clear hX HRu0 HBu0
        have hcu1 : u1.cell? ⟨fb, fo + k * 5 + 1, none⟩ = some (.int .i64 f.most) := (HBu1.out.cell (p := ⟨fb, fo + k * 5 + 1, none⟩) hfb).trans HC1.out
        go_wp2_with fail
        refine (ru_stop u1 _ _ _ _ HRu1.out).mono ?_
        rintro e u2 ⟨rfl, hX⟩
        have HRu2 := hide (HRu1.out.keep (Keep.of_below hX : Keep (fun _ => False) u1 u2) (fun _ _ => id))
        have HBu2 := hide (HBu1.out.trans (hX.mono HBu1.out.size))
        clear hX HRu1 HBu1
        have hcu2 : u2.cell? ⟨fb, fo + k * 5 + 1, none⟩ = some (.int .i64 f.most) := (HBu2.out.cell (p := ⟨fb, fo + k * 5 + 1, none⟩) hfb).trans HC1.out
        go_wp2_with fail
        refine (rt_stop f.most u2 _ _ _ _ HRu2.out).mono ?_
        rintro e u3 ⟨rfl, hX⟩
        have HRu3 := hide (HRu2.out.keep (Keep.of_below hX : Keep (fun _ => False) u2 u3) (fun _ _ => id))
        have HBu3 := hide (HBu2.out.trans (hX.mono HBu2.out.size))
        clear hX HRu2 HBu2
        have hcu3 : u3.cell? ⟨fb, fo + k * 5 + 1, none⟩ = some (.int .i64 f.most) := (HBu3.out.cell (p := ⟨fb, fo + k * 5 + 1, none⟩) hfb).trans HC1.out
        go_wp2_with fail
        refine (rr_stop f.most u3 _ _ _ _ HRu3.out).mono ?_
        rintro e u4 ⟨rfl, hX⟩
        have HRu4 := hide (HRu3.out.keep (Keep.of_below hX : Keep (fun _ => False) u3 u4) (fun _ _ => id))
        have HBu4 := hide (HBu3.out.trans (hX.mono HBu3.out.size))
        clear hX HRu3 HBu3
        have hcu4 : u4.cell? ⟨fb, fo + k * 5 + 1, none⟩ = some (.int .i64 f.most) := (HBu4.out.cell (p := ⟨fb, fo + k * 5 + 1, none⟩) hfb).trans HC1.out
        go_wp2_with fail
        refine (left_any u4 _ _ _ _ _ HRu4.out).mono ?_
        rintro e u4 ⟨rfl, rfl⟩
        go_wp2_with fail
        refine (err_any u4 _ _ _ _ _ HRu4.out).mono ?_
        rintro e u4 ⟨rfl, rfl⟩
        rw [show errOf true = 2 from rfl]
        go_wp2_with fail
        go_roundw
        case rel => exact ⟨k + 1, by omega, by go_num, HRu4, HBu4⟩
        case measure => simp [intOf]; omega
      · obtain rfl : k = n := by omega
        go_wp2_with fail
        refine (left_any wr _ _ _ _ _ HRwr.out).mono ?_
        rintro e wr ⟨rfl, rfl⟩
        go_wp2_with fail
        refine (endr_any wr _ _ _ _ _ HRwr.out).mono ?_
        rintro e v1 ⟨rfl, hK, hN⟩
        simp only [Bool.true_or]
        rw [show errOf true = 2 from rfl]
        have HBv := hide (hK.through HBwr.out (fun k h => HFB.out k h) HBwr.out.size)
        have HAW := hide (awake_any v1 (ht.below HBv.out h2))
        clear hK hN
        go_wp2_with fail
        refine HAW.out.mono ?_
        rintro e v2 ⟨rfl, hB5⟩
        have HB5 := hide (HBv.out.trans (hB5.mono HBv.out.size))
        clear hB5
        go_wp2_with fail
        go_ret
        exact ⟨rfl, HB5.out⟩
  by_cases h1 : m = 1
  · subst h1
    go_wp2_with fail
    refine (rr_go ((xs.length : Int) + 1) w1 _ _ _ _ HR1.out (by omega)).mono ?_
    intro e w2 hp
    obtain ⟨hK, _, rfl, hN⟩ := hp.none (by rw [cutRS, if_pos (by omega)])
    clear hp
    have HRw2 := hide hN
    have HBw2 := hide (hK.through HB1.out (fun k h => HFB.out k h) HB1.out.size)
    clear hK hN HR1 HB1
    go_wp2_with fail
    go_loopw [8] (fun i wr => ∃ k : Nat, k ≤ n ∧ i = .int .i64 k ∧ Hid (Rd wr B0 F g xs true) ∧ Hid (Below w.heap.size w wr))
        (fun i _ => n - (intOf i).toNat)
    case atStart => exact ⟨0, by omega, rfl, HRw2, HBw2⟩
    case round =>
      clear HRw2 HBw2
      obtain ⟨k, hk, rfl, HRwr, HBwr⟩ := hrel
      by_cases hlt : k < n
      · obtain ⟨fb, fo, rfl, hfb, c0, c1, c2, c3, c4⟩ := HF.out.at hlt
        generalize l.getD k default = f at c0 c1 c2 c3 c4
        have HC1 := hide c1
        clear c0 c1 c2 c3 c4
        go_wp2_with fail
        refine (r8_stop wr _ _ _ _ HRwr.out).mono ?_
        rintro e u0 ⟨rfl, hX⟩
        have HRu0 := hide (HRwr.out.keep (Keep.of_below hX : Keep (fun _ => False) wr u0) (fun _ _ => id))
        have HBu0 := hide (HBwr.out.trans (hX.mono HBwr.out.size))
        clear hX HRwr HBwr
        have hcu0 : u0.cell? ⟨fb, fo + k * 5 + 1, none⟩ = some (.int .i64 f.most) := (HBu0.out.cell (p := ⟨fb, fo + k * 5 + 1, none⟩) hfb).trans HC1.out
        go_wp2_with fail
        refine (r32_stop u0 _ _ _ _ HRu0.out).mono ?_
        rintro e u1 ⟨rfl, hX⟩
        have HRu1 := hide (HRu0.out.keep (Keep.of_below hX : Keep (fun _ => False) u0 u1) (fun _ _ => id))
        have HBu1 := hide (HBu0.out.trans (hX.mono HBu0.out.size))
        clear hX HRu0 HBu0
        have hcu1 : u1.cell? ⟨fb, fo + k * 5 + 1, none⟩ = some (.int .i64 f.most) := (HBu1.out.cell (p := ⟨fb, fo + k * 5 + 1, none⟩) hfb).trans HC1.out
        go_wp2_with fail
        refine (ru_stop u1 _ _ _ _ HRu1.out).mono ?_
        rintro e u2 ⟨rfl, hX⟩
        have HRu2 := hide (HRu1.out.keep (Keep.of_below hX : Keep (fun _ => False) u1 u2) (fun _ _ => id))
        have HBu2 := hide (HBu1.out.trans (hX.mono HBu1.out.size))
        clear hX HRu1 HBu1
        have hcu2 : u2.cell? ⟨fb, fo + k * 5 + 1, none⟩ = some (.int .i64 f.most) := (HBu2.out.cell (p := ⟨fb, fo + k * 5 + 1, none⟩) hfb).trans HC1.out
        go_wp2_with fail
        refine (rt_stop f.most u2 _ _ _ _ HRu2.out).mono ?_
        rintro e u3 ⟨rfl, hX⟩
        have HRu3 := hide (HRu2.out.keep (Keep.of_below hX : Keep (fun _ => False) u2 u3) (fun _ _ => id))
        have HBu3 := hide (HBu2.out.trans (hX.mono HBu2.out.size))
        clear hX HRu2 HBu2
        have hcu3 : u3.cell? ⟨fb, fo + k * 5 + 1, none⟩ = some (.int .i64 f.most) := (HBu3.out.cell (p := ⟨fb, fo + k * 5 + 1, none⟩) hfb).trans HC1.out
        go_wp2_with fail
        refine (rr_stop f.most u3 _ _ _ _ HRu3.out).mono ?_
        rintro e u4 ⟨rfl, hX⟩
        have HRu4 := hide (HRu3.out.keep (Keep.of_below hX : Keep (fun _ => False) u3 u4) (fun _ _ => id))
        have HBu4 := hide (HBu3.out.trans (hX.mono HBu3.out.size))
        clear hX HRu3 HBu3
        have hcu4 : u4.cell? ⟨fb, fo + k * 5 + 1, none⟩ = some (.int .i64 f.most) := (HBu4.out.cell (p := ⟨fb, fo + k * 5 + 1, none⟩) hfb).trans HC1.out
        go_wp2_with fail
        refine (left_any u4 _ _ _ _ _ HRu4.out).mono ?_
        rintro e u4 ⟨rfl, rfl⟩
        go_wp2_with fail
        refine (err_any u4 _ _ _ _ _ HRu4.out).mono ?_
        rintro e u4 ⟨rfl, rfl⟩
        rw [show errOf true = 2 from rfl]
        go_wp2_with fail
        go_roundw
        case rel => exact ⟨k + 1, by omega, by go_num, HRu4, HBu4⟩
        case measure => simp [intOf]; omega
      · obtain rfl : k = n := by omega
        go_wp2_with fail
        refine (left_any wr _ _ _ _ _ HRwr.out).mono ?_
        rintro e wr ⟨rfl, rfl⟩
        go_wp2_with fail
        refine (endr_any wr _ _ _ _ _ HRwr.out).mono ?_
        rintro e v1 ⟨rfl, hK, hN⟩
        simp only [Bool.true_or]
        rw [show errOf true = 2 from rfl]
        have HBv := hide (hK.through HBwr.out (fun k h => HFB.out k h) HBwr.out.size)
        have HAW := hide (awake_any v1 (ht.below HBv.out h2))
        clear hK hN
        go_wp2_with fail
        refine HAW.out.mono ?_
        rintro e v2 ⟨rfl, hB5⟩
        have HB5 := hide (HBv.out.trans (hB5.mono HBv.out.size))
        clear hB5
        go_wp2_with fail
        go_ret
        exact ⟨rfl, HB5.out⟩
  by_cases h2' : m = 2
  · subst h2'
    go_wp2_with fail
    refine (rr_go (-1) w1 _ _ _ _ HR1.out (by omega)).mono ?_
    intro e w2 hp
    obtain ⟨hK, _, rfl, hN⟩ := hp.none (by rw [cutRS, if_pos (by omega)])
    clear hp
    have HRw2 := hide hN
    have HBw2 := hide (hK.through HB1.out (fun k h => HFB.out k h) HB1.out.size)
    clear hK hN HR1 HB1
    go_wp2_with fail
    go_loopw [8] (fun i wr => ∃ k : Nat, k ≤ n ∧ i = .int .i64 k ∧ Hid (Rd wr B0 F g xs true) ∧ Hid (Below w.heap.size w wr))
        (fun i _ => n - (intOf i).toNat)
    case atStart => exact ⟨0, by omega, rfl, HRw2, HBw2⟩
    case round =>
      clear HRw2 HBw2
      obtain ⟨k, hk, rfl, HRwr, HBwr⟩ := hrel
      by_cases hlt : k < n
      · obtain ⟨fb, fo, rfl, hfb, c0, c1, c2, c3, c4⟩ := HF.out.at hlt
        generalize l.getD k default = f at c0 c1 c2 c3 c4
        have HC1 := hide c1
        clear c0 c1 c2 c3 c4
        go_wp2_with fail
        refine (r8_stop wr _ _ _ _ HRwr.out).mono ?_
        rintro e u0 ⟨rfl, hX⟩
        have HRu0 := hide (HRwr.out.keep (Keep.of_below hX : Keep (fun _ => False) wr u0) (fun _ _ => id))
        have HBu0 := hide (HBwr.out.trans (hX.mono HBwr.out.size))
        clear hX HRwr HBwr
        have hcu0 : u0.cell? ⟨fb, fo + k * 5 + 1, none⟩ = some (.int .i64 f.most) := (HBu0.out.cell (p := ⟨fb, fo + k * 5 + 1, none⟩) hfb).trans HC1.out
        go_wp2_with fail
        refine (r32_stop u0 _ _ _ _ HRu0.out).mono ?_
        rintro e u1 ⟨rfl, hX⟩
        have HRu1 := hide (HRu0.out.keep (Keep.of_below hX : Keep (fun _ => False) u0 u1) (fun _ _ => id))
        have HBu1 := hide (HBu0.out.trans (hX.mono HBu0.out.size))
        clear hX HRu0 HBu0
        have hcu1 : u1.cell? ⟨fb, fo + k * 5 + 1, none⟩ = some (.int .i64 f.most) := (HBu1.out.cell (p := ⟨fb, fo + k * 5 + 1, none⟩) hfb).trans HC1.out
        go_wp2_with fail
        refine (ru_stop u1 _ _ _ _ HRu1.out).mono ?_
        rintro e u2 ⟨rfl, hX⟩
        have HRu2 := hide (HRu1.out.keep (Keep.of_below hX : Keep (fun _ => False) u1 u2) (fun _ _ => id))
        have HBu2 := hide (HBu1.out.trans (hX.mono HBu1.out.size))
        clear hX HRu1 HBu1
        have hcu2 : u2.cell? ⟨fb, fo + k * 5 + 1, none⟩ = some (.int .i64 f.most) := (HBu2.out.cell (p := ⟨fb, fo + k * 5 + 1, none⟩) hfb).trans HC1.out
        go_wp2_with fail
        refine (rt_stop f.most u2 _ _ _ _ HRu2.out).mono ?_
        rintro e u3 ⟨rfl, hX⟩
        have HRu3 := hide (HRu2.out.keep (Keep.of_below hX : Keep (fun _ => False) u2 u3) (fun _ _ => id))
        have HBu3 := hide (HBu2.out.trans (hX.mono HBu2.out.size))
        clear hX HRu2 HBu2
        have hcu3 : u3.cell? ⟨fb, fo + k * 5 + 1, none⟩ = some (.int .i64 f.most) := (HBu3.out.cell (p := ⟨fb, fo + k * 5 + 1, none⟩) hfb).trans HC1.out
        go_wp2_with fail
        refine (rr_stop f.most u3 _ _ _ _ HRu3.out).mono ?_
        rintro e u4 ⟨rfl, hX⟩
        have HRu4 := hide (HRu3.out.keep (Keep.of_below hX : Keep (fun _ => False) u3 u4) (fun _ _ => id))
        have HBu4 := hide (HBu3.out.trans (hX.mono HBu3.out.size))
        clear hX HRu3 HBu3
        have hcu4 : u4.cell? ⟨fb, fo + k * 5 + 1, none⟩ = some (.int .i64 f.most) := (HBu4.out.cell (p := ⟨fb, fo + k * 5 + 1, none⟩) hfb).trans HC1.out
        go_wp2_with fail
        refine (left_any u4 _ _ _ _ _ HRu4.out).mono ?_
        rintro e u4 ⟨rfl, rfl⟩
        go_wp2_with fail
        refine (err_any u4 _ _ _ _ _ HRu4.out).mono ?_
        rintro e u4 ⟨rfl, rfl⟩
        rw [show errOf true = 2 from rfl]
        go_wp2_with fail
        go_roundw
        case rel => exact ⟨k + 1, by omega, by go_num, HRu4, HBu4⟩
        case measure => simp [intOf]; omega
      · obtain rfl : k = n := by omega
        go_wp2_with fail
        refine (left_any wr _ _ _ _ _ HRwr.out).mono ?_
        rintro e wr ⟨rfl, rfl⟩
        go_wp2_with fail
        refine (endr_any wr _ _ _ _ _ HRwr.out).mono ?_
        rintro e v1 ⟨rfl, hK, hN⟩
        simp only [Bool.true_or]
        rw [show errOf true = 2 from rfl]
        have HBv := hide (hK.through HBwr.out (fun k h => HFB.out k h) HBwr.out.size)
        have HAW := hide (awake_any v1 (ht.below HBv.out h2))
        clear hK hN
        go_wp2_with fail
        refine HAW.out.mono ?_
        rintro e v2 ⟨rfl, hB5⟩
        have HB5 := hide (HBv.out.trans (hB5.mono HBv.out.size))
        clear hB5
        go_wp2_with fail
        go_ret
        exact ⟨rfl, HB5.out⟩
  · go_wp2_with fail
    refine (rt_go (-1) w1 _ _ _ _ HR1.out (by omega) (ht.below HB1.out h2) HXR.out (by omega)).mono ?_
    intro e w2 hp
    obtain ⟨hK, _, rfl, hN⟩ := hp.none (by rw [cutTS]; cases cutUS xs with | none => rfl | some y => simp)
    clear hp
    have HRw2 := hide hN
    have HBw2 := hide (hK.through HB1.out (fun k h => HFB.out k h) HB1.out.size)
    clear hK hN HR1 HB1
    go_wp2_with fail
    go_loopw [8] (fun i wr => ∃ k : Nat, k ≤ n ∧ i = .int .i64 k ∧ Hid (Rd wr B0 F g xs true) ∧ Hid (Below w.heap.size w wr))
        (fun i _ => n - (intOf i).toNat)
    case atStart => exact ⟨0, by omega, rfl, HRw2, HBw2⟩
    case round =>
      clear HRw2 HBw2
      obtain ⟨k, hk, rfl, HRwr, HBwr⟩ := hrel
      by_cases hlt : k < n
      · obtain ⟨fb, fo, rfl, hfb, c0, c1, c2, c3, c4⟩ := HF.out.at hlt
        generalize l.getD k default = f at c0 c1 c2 c3 c4
        have HC1 := hide c1
        clear c0 c1 c2 c3 c4
        go_wp2_with fail
        refine (r8_stop wr _ _ _ _ HRwr.out).mono ?_
        rintro e u0 ⟨rfl, hX⟩
        have HRu0 := hide (HRwr.out.keep (Keep.of_below hX : Keep (fun _ => False) wr u0) (fun _ _ => id))
        have HBu0 := hide (HBwr.out.trans (hX.mono HBwr.out.size))
        clear hX HRwr HBwr
        have hcu0 : u0.cell? ⟨fb, fo + k * 5 + 1, none⟩ = some (.int .i64 f.most) := (HBu0.out.cell (p := ⟨fb, fo + k * 5 + 1, none⟩) hfb).trans HC1.out
        go_wp2_with fail
        refine (r32_stop u0 _ _ _ _ HRu0.out).mono ?_
        rintro e u1 ⟨rfl, hX⟩
        have HRu1 := hide (HRu0.out.keep (Keep.of_below hX : Keep (fun _ => False) u0 u1) (fun _ _ => id))
        have HBu1 := hide (HBu0.out.trans (hX.mono HBu0.out.size))
        clear hX HRu0 HBu0
        have hcu1 : u1.cell? ⟨fb, fo + k * 5 + 1, none⟩ = some (.int .i64 f.most) := (HBu1.out.cell (p := ⟨fb, fo + k * 5 + 1, none⟩) hfb).trans HC1.out
        go_wp2_with fail
        refine (ru_stop u1 _ _ _ _ HRu1.out).mono ?_
        rintro e u2 ⟨rfl, hX⟩
        have HRu2 := hide (HRu1.out.keep (Keep.of_below hX : Keep (fun _ => False) u1 u2) (fun _ _ => id))
        have HBu2 := hide (HBu1.out.trans (hX.mono HBu1.out.size))
        clear hX HRu1 HBu1
        have hcu2 : u2.cell? ⟨fb, fo + k * 5 + 1, none⟩ = some (.int .i64 f.most) := (HBu2.out.cell (p := ⟨fb, fo + k * 5 + 1, none⟩) hfb).trans HC1.out
        go_wp2_with fail
        refine (rt_stop f.most u2 _ _ _ _ HRu2.out).mono ?_
        rintro e u3 ⟨rfl, hX⟩
        have HRu3 := hide (HRu2.out.keep (Keep.of_below hX : Keep (fun _ => False) u2 u3) (fun _ _ => id))
        have HBu3 := hide (HBu2.out.trans (hX.mono HBu2.out.size))
        clear hX HRu2 HBu2
        have hcu3 : u3.cell? ⟨fb, fo + k * 5 + 1, none⟩ = some (.int .i64 f.most) := (HBu3.out.cell (p := ⟨fb, fo + k * 5 + 1, none⟩) hfb).trans HC1.out
        go_wp2_with fail
        refine (rr_stop f.most u3 _ _ _ _ HRu3.out).mono ?_
        rintro e u4 ⟨rfl, hX⟩
        have HRu4 := hide (HRu3.out.keep (Keep.of_below hX : Keep (fun _ => False) u3 u4) (fun _ _ => id))
        have HBu4 := hide (HBu3.out.trans (hX.mono HBu3.out.size))
        clear hX HRu3 HBu3
        have hcu4 : u4.cell? ⟨fb, fo + k * 5 + 1, none⟩ = some (.int .i64 f.most) := (HBu4.out.cell (p := ⟨fb, fo + k * 5 + 1, none⟩) hfb).trans HC1.out
        go_wp2_with fail
        refine (left_any u4 _ _ _ _ _ HRu4.out).mono ?_
        rintro e u4 ⟨rfl, rfl⟩
        go_wp2_with fail
        refine (err_any u4 _ _ _ _ _ HRu4.out).mono ?_
        rintro e u4 ⟨rfl, rfl⟩
        rw [show errOf true = 2 from rfl]
        go_wp2_with fail
        go_roundw
        case rel => exact ⟨k + 1, by omega, by go_num, HRu4, HBu4⟩
        case measure => simp [intOf]; omega
      · obtain rfl : k = n := by omega
        go_wp2_with fail
        refine (left_any wr _ _ _ _ _ HRwr.out).mono ?_
        rintro e wr ⟨rfl, rfl⟩
        go_wp2_with fail
        refine (endr_any wr _ _ _ _ _ HRwr.out).mono ?_
        rintro e v1 ⟨rfl, hK, hN⟩
        simp only [Bool.true_or]
        rw [show errOf true = 2 from rfl]
        have HBv := hide (hK.through HBwr.out (fun k h => HFB.out k h) HBwr.out.size)
        have HAW := hide (awake_any v1 (ht.below HBv.out h2))
        clear hK hN
        go_wp2_with fail
        refine HAW.out.mono ?_
        rintro e v2 ⟨rfl, hB5⟩
        have HB5 := hide (HBv.out.trans (hB5.mono HBv.out.size))
        clear hB5
        go_wp2_with fail
        go_ret
        exact ⟨rfl, HB5.out⟩
end Go.Proofs.YtjcdmffjpkckoaaDoor
