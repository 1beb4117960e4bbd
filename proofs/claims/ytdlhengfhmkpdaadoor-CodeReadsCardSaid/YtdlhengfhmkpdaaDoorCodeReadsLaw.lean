/- The law CodeReads, walked. -/
import Derived.Test.YtdlhengfhmkpdaaDoorCdBoth
import Derived.Test.YtdlhengfhmkpdaaDoorCdAwake
import Derived.Test.YtdlhengfhmkpdaaDoorRowSet
import Derived.Deep.RegionHeld3
import Derived.Deep.MidRow
import Derived.Deep.DeepCutAuto
namespace Go.Proofs.YtdlhengfhmkpdaaDoor
open Go.RowKit

theorem stp_drop (st : Bool) (r : Option (List Int)) (bs : List Int) (h : ∀ x, r = some x → ∃ j, x = bs.drop j) : ∃ j, (stp st r bs).1 = bs.drop j := by
  unfold stp
  split
  · exact ⟨0, rfl⟩
  · split
    · exact ⟨0, rfl⟩
    · exact h _ rfl
theorem cut8_drop (bs : List Int) : ∀ x, cut8 bs = some x → ∃ j, x = bs.drop j := by
  intro x h
  rw [cut8] at h
  split at h
  · cases h
  · cases h; exact ⟨1, rfl⟩
theorem cut32_drop (bs : List Int) : ∀ x, cut32 bs = some x → ∃ j, x = bs.drop j := by
  intro x h
  rw [cut32] at h
  split at h
  · cases h
  · cases h; exact ⟨4, rfl⟩
theorem cutR_drop (n : Int) (bs : List Int) : ∀ x, cutRS n bs = some x → ∃ j, x = bs.drop j := by
  intro x h
  rw [cutRS] at h
  split at h
  · cases h
  · cases h; exact ⟨_, rfl⟩
theorem cutU_drop (bs : List Int) (hr : ∀ x ∈ bs, 0 ≤ x ∧ x < 256) : ∀ x, (cutUS bs).map (·.2) = some x → ∃ j, x = bs.drop j := by
  intro x h
  obtain ⟨y, hy, rfl⟩ := Option.map_eq_some_iff.1 h
  obtain ⟨n, _, _, _, h2, _⟩ := frontS_some hr hy
  exact ⟨n, h2.symm⟩
theorem cutT_drop (n : Int) (bs : List Int) (hr : ∀ x ∈ bs, 0 ≤ x ∧ x < 256) : ∀ x, (cutTS n bs).map (·.2) = some x → ∃ j, x = bs.drop j := by
  intro x h
  obtain ⟨y, hy, rfl⟩ := Option.map_eq_some_iff.1 h
  rw [cutTS] at hy
  split at hy
  · cases hy
  · rename_i z hz
    obtain ⟨m, _, _, _, h2, _⟩ := frontS_some hr hz
    split at hy
    · cases hy
    · cases hy
      exact ⟨m + z.1, by rw [← List.drop_drop, h2]⟩
theorem v8_wrap (st : Bool) (bs : List Int) (hr : ∀ x ∈ bs, 0 ≤ x ∧ x < 256) : IntKind.u64.wrap (v8 st bs) = v8 st bs := by
  have h := nth_range hr 0
  apply IntWalk.u64_in
  unfold v8
  split <;> omega

theorem v32_wrap (st : Bool) (bs : List Int) (hr : ∀ x ∈ bs, 0 ≤ x ∧ x < 256) : IntKind.u64.wrap (v32 st bs : Int) = (v32 st bs : Int) := by
  have h := u32V_lt bs hr 4
  apply IntWalk.u64_in
  unfold v32
  split <;> omega

set_option maxRecDepth 100000 in
set_option maxHeartbeats 16000000 in
theorem reads_walk (xs : List Int) (l : List Fld) (fl : Int) (sv lv : Value) (w : World) (ht : Tab w) (hxs : SlAt w sv xs) (hxr : ∀ x ∈ xs, 0 ≤ x ∧ x < 256) (_ : xs.length ≤ maxLen) (hlv : FAt w lv l) (hl : ∀ f ∈ l, f.ok) (_ : (Lit.int .i64 fl).wf = true) :
    Calls Tryd.prog 3 #[sv, lv, .int .i64 fl] w (LawPost w) := by
  have h2 := ht.two
  obtain ⟨ao, cap, rfl⟩ := hxs.len
  obtain ⟨al, capl, rfl⟩ := hlv.len
  have HL := hide (long_any l _ w hlv hl)
  have HAW0 := hide (awake_any w ht)
  have HX := hide hxs
  have HF := hide hlv
  have HXR := hide hxr
  have HOK := hide hl
  obtain ⟨n, hn⟩ : ∃ n, n = l.length := ⟨_, rfl⟩
  rw [← hn] at HF HL ⊢
  have HN := tuck hn
  clear hxs hlv hxr hl hn
  by_cases hlong : 1000 < cnt l
  · rw [decide_eq_true hlong] at HL
    go_enter Tryd.func3, Tryd.ntmps3
    go_wp2_with fail
    refine HL.out.mono ?_
    rintro e w ⟨rfl, rfl⟩
    go_wp2_with fail
    refine HAW0.out.mono ?_
    rintro e w1 ⟨rfl, hB⟩
    go_wp2_with fail
    go_ret
    exact ⟨rfl, hB⟩
  rw [decide_eq_false hlong] at HL
  have hn1000 : n ≤ 1000 := by have := cnt_len l; have := HN.out; omega
  clear hlong
  by_cases hbig : 20000 < xs.length
  · have hbi : (xs.length : Int) > 20000 := by omega
    go_enter Tryd.func3, Tryd.ntmps3
    go_wp2_with fail
    refine HL.out.mono ?_
    rintro e w ⟨rfl, rfl⟩
    go_wp2_with fail
    refine HAW0.out.mono ?_
    rintro e w1 ⟨rfl, hB⟩
    go_wp2_with fail
    go_ret
    exact ⟨rfl, hB⟩
  have hbi : ¬ (xs.length : Int) > 20000 := by omega
  have hB0 : Below w.heap.size w (w.alloc (.cells #[] 5)) := (Below.refl _ _).alloc (Nat.le_refl _) _
  obtain ⟨v', wa, hrun, hrow, hk, hat⟩ := append_keep (w.alloc (.cells #[] 5)) w.heap.size (.slice (some ⟨w.heap.size, 0, none⟩) 0 0) [] (Row.empty w) _ xs (HX.out.below hB0) (by simp; omega) (by simp)
  rw [List.nil_append] at hrow
  have HBa := hide (hk.through hB0 (fun k e => by simp [Value.ownBlock] at e; omega) (by simp) : Below w.heap.size w wa)
  have HRa := hide hrow
  obtain ⟨av, cv, hvv⟩ := hrow.slAt.len
  have hxl : xs.length ≤ 20000 := by omega
  obtain ⟨lx, hlx⟩ : ∃ lx, lx = xs.length := ⟨_, rfl⟩
  have HLX := tuck hlx
  rw [← hlx] at hrun hvv hbi hxl HX ⊢
  subst hvv
  have HNR := hide (newReader_any _ xs wa HRa.out.slAt (by rw [← HLX.out]; omega))
  clear hB0 hrow hk hat hlx hbig
  go_enter Tryd.func3, Tryd.ntmps3
  go_wp2_with fail
  refine HL.out.mono ?_
  rintro e w ⟨rfl, rfl⟩
  go_wp2_with (first | (at_builtin; with_reducible refine wpList_append_run rfl (.tmp 25) (.tmp 26) 22 22 22 rfl rfl (.slice (some ⟨w.heap.size, 0, none⟩) 0 0) (.slice ao lx cap) _ wa rfl rfl hrun ?_))
  refine HNR.out.mono ?_
  rintro e w1 ⟨g, rfl, hB1, hR1⟩
  have HB1 := hide (HBa.out.trans (hB1.mono HBa.out.size))
  have HR1 := hide hR1
  have HO1 := hide (HRa.out.below hB1)
  obtain ⟨F, hF⟩ : ∃ F : Nat → Prop, F = fun k => wa.heap.size ≤ k ∧ k < w1.heap.size := ⟨_, rfl⟩
  have HFA : Hid (∀ k, F k → wa.heap.size ≤ k) := hide (by rw [hF]; exact fun k h => h.1)
  have HOF : Hid (∀ k, (Value.slice av lx cv).ownBlock = some k → ¬ F k ∧ w.heap.size ≤ k) := hide (fun k e => ⟨fun hf => by have := HRa.out.lt e; have := HFA.out k hf; omega, HRa.out.ge e⟩)
  have HR1 := hide (show Rd w1 w.heap.size F g xs false from ⟨by rw [hF]; exact HR1.out.own, fun k h => ⟨Nat.le_trans HBa.out.size (HFA.out k h), by rw [hF] at h; exact h.2⟩, by rw [hF]; exact HR1.out.shape⟩)
  have hB0 : Below w1.heap.size w1 (w1.alloc (.cells #[] 5)) := (Below.refl _ _).alloc (Nat.le_refl _) _
  obtain ⟨v2, wb, hrun2, hrow2, hk2, hat2⟩ := append_keep (w1.alloc (.cells #[] 5)) w1.heap.size (.slice (some ⟨w1.heap.size, 0, none⟩) 0 0) [] (Row.empty w1) _ xs ((HX.out.below HB1.out).below hB0) (by simp; rw [← HLX.out]; omega) (by simp)
  rw [List.nil_append] at hrow2
  have hBb : Below w1.heap.size w1 wb := hk2.through hB0 (fun k e => by simp [Value.ownBlock] at e; omega) (by simp)
  obtain ⟨av2, cv2, hvv2⟩ := hrow2.slAt.len
  rw [← HLX.out] at hvv2
  subst hvv2
  have HBc := hide (hBb.alloc hBb.size (.cells #[.slice av2 lx cv2, .bool false] 30))
  obtain ⟨G, hG⟩ : ∃ G : Nat → Prop, G = (fun k => w1.heap.size ≤ k ∧ k < (wb.alloc (.cells #[.slice av2 lx cv2, .bool false] 30)).heap.size) := ⟨_, rfl⟩
  obtain ⟨w4, hw4⟩ : ∃ w4, w4 = wb.alloc (.cells #[.slice av2 lx cv2, .bool false] 30) := ⟨_, rfl⟩
  obtain ⟨gm, hgm⟩ : ∃ gm, gm = wb.heap.size := ⟨_, rfl⟩
  have HM : Hid (RdM (wb.alloc (.cells #[.slice av2 lx cv2, .bool false] 30)) w.heap.size (fun k => w1.heap.size ≤ k ∧ k < (wb.alloc (.cells #[.slice av2 lx cv2, .bool false] 30)).heap.size) wb.heap.size xs false) := hide (by
    have hb := hBb.size
    have h1 := HB1.out.size
    refine ⟨⟨hb, by simp⟩, fun k h => ⟨by omega, h.2⟩, .slice av2 lx cv2, heap_alloc_new _ _, ?_, fun k e => ?_⟩
    · exact (hrow2.alloc _).slAt
    · have a := hrow2.ge e
      have b := hrow2.lt e
      exact ⟨⟨a, by simp; omega⟩, by omega⟩)
  have HM4 := hide (show RdM w4 w.heap.size G gm xs false by rw [hw4, hG, hgm]; exact HM.out)
  have HFG : Hid (∀ k, F k → ¬ G k) := hide (fun k hf h => by rw [hG] at h; have := (HR1.out.ge k hf).2; omega)
  have HOG : Hid (∀ k, (Value.slice av lx cv).ownBlock = some k → ¬ G k) := hide (fun k e h => by rw [hG] at h; have := HO1.out.lt e; omega)
  have HBd := hide (show Below w1.heap.size w1 w4 by rw [hw4]; exact HBc.out)
  have HR2 := hide (HR1.out.keep (Keep.of_below HBd.out : Keep (fun _ => False) w1 w4) (fun _ _ => id))
  have HB2 := hide (HB1.out.trans (HBd.out.mono HB1.out.size))
  have HO2 := hide (HO1.out.below HBd.out)
  clear hG HM
  clear hB0 hBb hrow2 hk2 hat2 hF hB1 hR1 HNR HL HAW0
  go_wp2_with (first | (at_builtin; with_reducible refine wpList_append_run rfl (.tmp 30) (.tmp 31) 22 22 22 rfl rfl (.slice (some ⟨w1.heap.size, 0, none⟩) 0 0) (.slice ao lx cap) _ wb rfl rfl hrun2 ?_))
  clear hrun hrun2 HO1 HRa HFA HBa
  clear HR1 HB1 HBc HBd
  rw [← hgm, ← hw4]
  clear hw4 hgm
  go_wp2_with fail
  go_loopw [10] (fun i wr => ∃ q : Nat, q ≤ lx ∧ i = .int .i64 q ∧ ∃ ys : List Int, Tuck (ys.length = lx) ∧ Hid (Row wr w.heap.size (.slice av lx cv) ys) ∧ Hid (Keep (fun j => (Value.slice av lx cv).ownBlock = some j) w4 wr))
    (fun i _ => lx - (intOf i).toNat)
  case atStart => exact ⟨0, by omega, rfl, xs, tuck HLX.out.symm, HO2, hide (Keep.refl _ _)⟩
  case round =>
    clear HO2
    obtain ⟨q, hq, rfl, ys, HYL, HRB, HKB⟩ := hrel
    by_cases hlt3 : q < lx
    · obtain ⟨gb, rfl⟩ : ∃ gb, av = some ⟨gb, 0, none⟩ := by
        rcases HRB.out.own with ⟨e1, e2⟩ | ⟨g, c, e1⟩
        · have := HYL.out; rw [e2] at this; simp at this; omega
        · injection e1 with e1 _ _; exact ⟨g, e1⟩
      have hc : wr.cell? ⟨gb, q, none⟩ = some (.int .u8 (nth ys q)) := by
        obtain ⟨ao', cap', hv, _, _, ha⟩ := HRB.out.slAt
        injection hv with x1 x2 x3
        have := (ha _ x1.symm q (by rw [HYL.out]; exact hlt3)).2.2
        rw [addr_plain', Nat.zero_add] at this
        exact this
      obtain ⟨y, hy⟩ : ∃ y, nth ys q = y := ⟨_, rfl⟩
      rw [hy] at hc
      obtain ⟨z, hz⟩ : ∃ z, IntKind.u8.wrap (y + 1) = z := ⟨_, rfl⟩
      obtain ⟨hrs, hf⟩ := HRB.out.set q hlt3 z
      have HRS := hide hrs
      have HKS := hide (HKB.out.trans (Keep.set (F := fun j => (Value.slice (some ⟨gb, 0, none⟩) lx cv).ownBlock = some j) wr ⟨gb, q, none⟩ (.int .u8 z) rfl) (fun _ h => .inl h))
      have HYS : Tuck ((ys.set q z).length = lx) := tuck (by rw [List.length_set, HYL.out])
      clear hrs hy HRB HKB
      go_wp2_with fail
      go_roundw
      case rel => exact ⟨q + 1, by omega, by go_num, _, HYS, HRS, HKS⟩
      case measure => simp [intOf]; omega
    · obtain rfl : q = lx := by omega
      have HR5 := hide (HR2.out.keep HKB.out (fun j hf he => (HOF.out j he).1 hf))
      have HM5 := hide (HM4.out.keep HKB.out (fun j hf he => HOG.out j he hf))
      have HB5 := hide (HKB.out.through HB2.out (fun j he => (HOF.out j he).2) HB2.out.size)
      clear HRB HKB HR2 HM4 HB2 HOF HOG HYL
      have hxl2 := tuck hxl
      have hn2 := tuck hn1000
      clear hlt3 hq
      go_wp2_with fail
      go_loopw [11] (fun i wr => ∃ k : Nat, k ≤ n ∧ i = .int .i64 k ∧ ∃ (bs : List Int) (st : Bool) (F G : Nat → Prop), Hid (Rd wr w.heap.size F g bs st) ∧ Hid (RdM wr w.heap.size G gm bs st) ∧ Hid (∀ k, F k → ¬ G k) ∧ Hid (Below w.heap.size w wr) ∧ Hid (∀ x ∈ bs, 0 ≤ x ∧ x < 256) ∧ Tuck (bs.length ≤ 20000))
        (fun i _ => n - (intOf i).toNat)
      case atStart => exact ⟨0, by omega, rfl, xs, false, F, G, HR5, HM5, HFG, HB5, HXR, tuck (by rw [← HLX.out]; exact hxl2.out)⟩
      case round =>
        clear HR5 HM5 HB5 HFG HXR
        obtain ⟨k, hk, rfl, bs, st, F', G', HR, HM, HFG, HB, HXR, HBL⟩ := hrel
        by_cases hlt : k < n
        · obtain ⟨fb, fo, rfl, hfb, e0, e1, e2, e3, e4⟩ := (HF.out.below HB.out).at hlt
          have hkl : k < l.length := by rw [← HN.out]; exact hlt
          have hmem : l.getD k default ∈ l := by simp [List.getD, hkl]
          have HOKf := hide (HOK.out _ hmem)
          clear hmem hkl
          generalize l.getD k default = f at e0 e1 e2 e3 e4 HOKf
          have HKD := hide (fun W => kind_any f W)
          unfold Fld.val at HKD
          go_wp2_with fail
          refine (HKD.out _).mono ?_
          rintro e t1 ⟨rfl, hBk⟩
          have hB1 : Below wr.heap.size wr t1 := ((Below.refl wr.heap.size wr).alloc (Nat.le_refl _) (.cells f.cells.toArray 33)).trans (hBk.mono (by simp))
          have HROW : Hid (t1.heap[wr.heap.size]? = some (.cells f.cells.toArray 33 (0, 0))) := hide ((hBk.block _ (by simp)).trans (heap_alloc_new _ _))
          have HR1 := hide (HR.out.keep (Keep.of_below hB1 : Keep (fun _ => False) wr t1) (fun _ _ => id))
          have HM1 := hide (HM.out.keep (Keep.of_below hB1 : Keep (fun _ => False) wr t1) (fun _ _ => id))
          have HB1 := hide (HB.out.trans (hB1.mono HB.out.size))
          have HFF : Hid (¬ F' wr.heap.size ∧ ¬ G' wr.heap.size) := hide ⟨fun h => by have := (HR.out.ge _ h).2; omega, fun h => by have := (HM.out.ge _ h).2; omega⟩
          have HTu := hide (ht.below HB1.out h2)
          have HSu : Hid (wr.heap.size < t1.heap.size) := hide (Array.getElem?_eq_some_iff.1 HROW.out).1
          obtain ⟨gf, hgf⟩ : ∃ gf, wr.heap.size = gf := ⟨_, rfl⟩
          rw [hgf] at HROW HFF HSu ⊢
          clear hgf hBk hB1 HKD e0 e1 e2 e3 e4 HR HM HB
          obtain ⟨kd, hkd⟩ : ∃ kd, f.kd = kd := ⟨_, rfl⟩
          rw [hkd]
          clear hkd
          by_cases hc0 : kd = 0
          · skip
            subst hc0
            have HA := hide (r8_all t1 w.heap.size F' g bs st HR1.out)
            go_wp2_with fail
            refine HA.out.mono ?_
            rintro e t2 ⟨v, rfl, rfl, hK, hR2⟩
            have HR2 := hide hR2
            have HM2 := hide (HM1.out.keep hK (fun j a b => HFG.out j b a))
            have HB2 := hide (hK.through HB1.out (fun j h => (HR1.out.ge j h).1) HB1.out.size)
            have HMM := hide (m8_all t2 w.heap.size G' gm bs st HM2.out HXR.out (by have := HBL.out; omega))
            have hw8 := v8_wrap st bs HXR.out
            obtain ⟨jd, hjd⟩ := stp_drop st (cut8 bs) bs (cut8_drop bs)
            obtain ⟨bs2, hbs2⟩ : ∃ bs2, (stp st (cut8 bs) bs).1 = bs2 := ⟨_, rfl⟩
            obtain ⟨st2, hst2⟩ : ∃ st2, (stp st (cut8 bs) bs).2 = st2 := ⟨_, rfl⟩
            rw [hbs2] at hjd HR2
            rw [hst2] at HR2
            unfold AllM at HMM
            rw [hbs2, hst2] at HMM
            have HXz : Hid (∀ x ∈ bs2, 0 ≤ x ∧ x < 256) := hide (fun x hx => HXR.out x (by rw [hjd] at hx; exact List.mem_of_mem_drop hx))
            have HLz : Tuck (bs2.length ≤ 20000) := tuck (by rw [hjd, List.length_drop]; have := HBL.out; omega)
            clear hbs2 hst2 hjd hK hR2 HA HM1 HB1 HR1
            generalize v8 st bs = vv at hw8 HMM ⊢
            go_wp2_with fail
            refine HMM.out.mono ?_
            rintro e tz ⟨v, rfl, rfl, hKM, hM3⟩
            have HRz := hide (HR2.out.keep hKM (fun j a b => HFG.out j a b))
            have HBz := hide (hKM.through HB2.out (fun j h => (HM2.out.ge j h).1) HB2.out.size)
            have HFGz : Hid (∀ k, F' k → ¬ Up G' t2 tz k) := hide (fun k a b => by
              rcases b with b | b
              · exact HFG.out k a b
              · have := (HR2.out.ge k a).2; omega)
            have HMz := hide hM3
            obtain ⟨G2, hG2⟩ : ∃ G2, Up G' t2 tz = G2 := ⟨_, rfl⟩
            rw [hG2] at HFGz HMz
            clear hG2 hKM hM3 HMM HM2 HB2 HR2 HFG hw8
            go_upto_region 30 with (fail)
            try simp only [beq_self_eq_true]
            by_cases hfl : (k : Int) = fl
            · have HFA := hide (fail_any tz _ F' g bs2 st2 HRz.out)
              go_wp2_with fail
              refine HFA.out.mono ?_
              rintro e ty ⟨rfl, hK, hR⟩
              have HMy := hide (HMz.out.keep hK (fun j a b => HFGz.out j b a))
              have HBy := hide (hK.through HBz.out (fun j h => (HRz.out.ge j h).1) HBz.out.size)
              have HSS := hide (HMy.out.stop true)
              have HRy := hide (hR.keep HSS.out.2 (fun j a b => HFGz.out j a b))
              have HBs := hide (HSS.out.2.through HBy.out (fun j h => (HMy.out.ge j h).1) HBy.out.size)
              have HMs := hide HSS.out.1
              obtain ⟨am0, cm0, _, _, _, _, _, _, f1⟩ := HMy.out.cells
              clear hK hR HSS HFA HRz HMz HBz
              go_upto_region 33 with (fail)
              clear f1 HMy HBy
              generalize ty.setCell ⟨gm, 1, none⟩ (.bool true) = tz at HRy HBs HMs ⊢
              have HRz := HRy
              have HMz := HMs
              have HBz := HBs
              clear HRy HMs HBs
              have HRd := hide (show Rd tz.drew w.heap.size F' g bs2 true from HRz.out.keep (Keep.drew (fun _ => False) tz) (fun _ _ => id))
              have HMd := hide (show RdM tz.drew w.heap.size G2 gm bs2 true from HMz.out.keep (Keep.drew (fun _ => False) tz) (fun _ _ => id))
              have HBd := hide (show Below w.heap.size w tz.drew from HBz.out.drew)
              obtain ⟨am, cm, _, _, _, d0, d1, _, _⟩ := HMd.out.cells
              have HD := hide (And.intro d0 d1)
              clear d0 d1
              have HLF := hide (left_any tz.drew _ _ _ _ _ HRd.out)
              have HER := hide (err_any tz.drew _ _ _ _ _ HRd.out)
              rw [show errOf true = 2 from rfl] at HER
              obtain ⟨lz, hlz⟩ : ∃ lz, bs2.length = lz := ⟨_, rfl⟩
              rw [hlz] at HD HLF
              clear hlz
              go_wp2_with fail
              refine wp_region_held_drew (S := fun w' => w'.cell? ⟨gm, 0, none⟩ = some (.slice am lz cm) ∧ w'.cell? ⟨gm, 1, none⟩ = some (.bool true)) (by kernel_rfl) HD.out (fun hHeld => ?_)
              refine wpAnyH_take (i := 0) (oi := { dst := some 125, op := Op.move (Operand.tmp 13), type := 4, pos := "law.go:137", after := #[], guard := none }) (v := ?_) rfl (by kernel_rfl) (by kernel_rfl) (by kernel_rfl) (fun _ _ _ h => h) (Or.inl ⟨by rfl, ?_⟩) hHeld ?_
              rotate_left
              · intro w hSw; (try dsimp only at hSw); go_simp; first | done | with_reducible rfl
              try simp only [Act.put, List.setIfInBounds_toArray, List.set_cons_zero, List.set_cons_succ]
              refine wpAnyH_take (i := 1) (oi := { dst := some 126, op := Op.unOp UnOp.not 4 (Operand.tmp 125), type := 4, pos := "law.go:137", after := #[{ on := 0, ground := Ground.data }], guard := none }) (v := ?_) rfl (by kernel_rfl) (by kernel_rfl) (by kernel_rfl) (fun _ _ _ h => h) (Or.inl ⟨by rfl, ?_⟩) hHeld ?_
              rotate_left
              · intro w hSw; (try dsimp only at hSw); go_simp; first | done | with_reducible rfl
              try simp only [Act.put, List.setIfInBounds_toArray, List.set_cons_zero, List.set_cons_succ]
              refine wpAnyH_take (i := 2) (oi := { dst := some 127, op := Op.move (Operand.tmp 126), type := 4, pos := "law.go:137", after := #[{ on := 1, ground := Ground.data }], guard := none }) (v := ?_) rfl (by kernel_rfl) (by kernel_rfl) (by kernel_rfl) (fun _ _ _ h => h) (Or.inl ⟨by rfl, ?_⟩) hHeld ?_
              rotate_left
              · intro w hSw; (try dsimp only at hSw); go_simp; first | done | with_reducible rfl
              try simp only [Act.put, List.setIfInBounds_toArray, List.set_cons_zero, List.set_cons_succ]
              refine wpAnyH_take (i := 3) (oi := { dst := some 128, op := Op.move (Operand.tmp 8), type := 26, pos := "law.go:137", after := #[{ on := 2, ground := Ground.guard }], guard := some (2, false) }) (v := ?_) rfl (by kernel_rfl) (by kernel_rfl) (by kernel_rfl) (fun _ _ _ h => h) (Or.inl ⟨by rfl, ?_⟩) hHeld ?_
              rotate_left
              · intro w hSw; (try dsimp only at hSw); go_simp; first | done | with_reducible rfl
              try simp only [Act.put, List.setIfInBounds_toArray, List.set_cons_zero, List.set_cons_succ]
              refine wpAnyH_take (i := 5) (oi := { dst := some 130, op := Op.move (Operand.tmp 9), type := 28, pos := "law.go:137", after := #[{ on := 2, ground := Ground.guard }], guard := some (2, false) }) (v := ?_) rfl (by kernel_rfl) (by kernel_rfl) (by kernel_rfl) (fun _ _ _ h => h) (Or.inl ⟨by rfl, ?_⟩) hHeld ?_
              rotate_left
              · intro w hSw; (try dsimp only at hSw); go_simp; first | done | with_reducible rfl
              try simp only [Act.put, List.setIfInBounds_toArray, List.set_cons_zero, List.set_cons_succ]
              refine wpAnyH_take (i := 6) (oi := { dst := some 131, op := Op.nilCheck (Operand.tmp 130), type := 0, pos := "law.go:137", after := #[{ on := 5, ground := Ground.data }, { on := 2, ground := Ground.guard }], guard := some (2, false) }) (v := ?_) rfl (by kernel_rfl) (by kernel_rfl) (by kernel_rfl) (fun _ _ _ h => h) (Or.inl ⟨by rfl, ?_⟩) hHeld ?_
              rotate_left
              · intro w hSw; (try dsimp only at hSw); go_simp; first | done | with_reducible rfl
              try simp only [Act.put, List.setIfInBounds_toArray, List.set_cons_zero, List.set_cons_succ]
              refine wpAnyH_take (i := 7) (oi := { dst := some 132, op := Op.fieldAddr 30 (Operand.tmp 131) 0, type := 0, pos := "law.go:137", after := #[{ on := 6, ground := Ground.data }, { on := 2, ground := Ground.guard }], guard := some (2, false) }) (v := ?_) rfl (by kernel_rfl) (by kernel_rfl) (by kernel_rfl) (fun _ _ _ h => h) (Or.inl ⟨by rfl, ?_⟩) hHeld ?_
              rotate_left
              · intro w hSw; (try dsimp only at hSw); go_simp; first | done | with_reducible rfl
              try simp only [Act.put, List.setIfInBounds_toArray, List.set_cons_zero, List.set_cons_succ]
              refine wpAnyH_take (i := 8) (oi := { dst := some 133, op := Op.load 22 (Operand.tmp 132), type := 22, pos := "law.go:137", after := #[{ on := 7, ground := Ground.data }, { on := 2, ground := Ground.guard }], guard := some (2, false) }) (v := ?_) rfl (by kernel_rfl) (by kernel_rfl) (by kernel_rfl) (fun _ _ _ h => h) (Or.inl ⟨by rfl, ?_⟩) hHeld ?_
              rotate_left
              · intro w hSw; (try dsimp only at hSw); have c8 := hSw.1; go_simp; first | done | with_reducible rfl
              try simp only [Act.put, List.setIfInBounds_toArray, List.set_cons_zero, List.set_cons_succ]
              refine wpAnyH_take (i := 9) (oi := { dst := some 134, op := Op.call { callee := Callee.builtin Builtin.len, args := #[Operand.tmp 133], argTypes := #[22] }, type := 3, pos := "law.go:137", after := #[{ on := 8, ground := Ground.data }, { on := 2, ground := Ground.guard }], guard := some (2, false) }) (v := ?_) rfl (by kernel_rfl) (by kernel_rfl) (by kernel_rfl) (fun _ _ _ h => h) (Or.inl ⟨by rfl, ?_⟩) hHeld ?_
              rotate_left
              · intro w hSw; (try dsimp only at hSw); go_simp; first | done | with_reducible rfl
              try simp only [Act.put, List.setIfInBounds_toArray, List.set_cons_zero, List.set_cons_succ]
              refine wpAnyH_ready (rs := [4]) (by kernel_rfl) (by simp) ?_
              refine AllReadyH.cons (o := { dst := some 129, op := Op.call { callee := Callee.value (Operand.func 25), args := #[Operand.tmp 128], argTypes := #[26] }, type := 3, pos := "law.go:137", after := #[{ on := 3, ground := Ground.data }, { on := 2, ground := Ground.chain }, { on := 2, ground := Ground.guard }], guard := some (2, false) }) rfl (fun K hK => ?_) AllReadyH.nil
              clear hHeld
              go_simp
              refine HLF.out.mono ?_
              rintro e z1 ⟨rfl, rfl⟩
              refine hK.out _ _ (HD.out) (fun hHeld => ?_)
              clear hK K
              try simp only [Act.put, List.setIfInBounds_toArray, List.set_cons_zero, List.set_cons_succ]
              refine wpAnyH_take (i := 10) (oi := { dst := some 135, op := Op.binOp BinOp.neq 3 (Operand.tmp 129) (Operand.tmp 134) 3, type := 4, pos := "law.go:137", after := #[{ on := 4, ground := Ground.data }, { on := 9, ground := Ground.data }, { on := 2, ground := Ground.guard }], guard := some (2, false) }) (v := ?_) rfl (by kernel_rfl) (by kernel_rfl) (by kernel_rfl) (fun _ _ _ h => h) (Or.inl ⟨by rfl, ?_⟩) hHeld ?_
              rotate_left
              · intro w hSw; (try dsimp only at hSw); go_simp; first | done | with_reducible rfl
              try simp only [Act.put, List.setIfInBounds_toArray, List.set_cons_zero, List.set_cons_succ]
              refine wpAnyH_take (i := 11) (oi := { dst := some 136, op := Op.pick (Operand.tmp 127) (Operand.const (Value.bool true)) (Operand.tmp 135), type := 4, pos := "law.go:137", after := #[{ on := 2, ground := Ground.data }, { on := 10, ground := Ground.data }], guard := none }) (v := ?_) rfl (by kernel_rfl) (by kernel_rfl) (by kernel_rfl) (fun _ _ _ h => h) (Or.inl ⟨by rfl, ?_⟩) hHeld ?_
              rotate_left
              · intro w hSw; (try dsimp only at hSw); go_simp; first | done | with_reducible rfl
              try simp only [Act.put, List.setIfInBounds_toArray, List.set_cons_zero, List.set_cons_succ]
              refine wpAnyH_take (i := 12) (oi := { dst := some 137, op := Op.move (Operand.tmp 136), type := 4, pos := "law.go:137", after := #[{ on := 11, ground := Ground.data }, { on := 4, ground := Ground.chain }], guard := none }) (v := ?_) rfl (by kernel_rfl) (by kernel_rfl) (by kernel_rfl) (fun _ _ _ h => h) (Or.inl ⟨by rfl, ?_⟩) hHeld ?_
              rotate_left
              · intro w hSw; (try dsimp only at hSw); go_simp; first | done | with_reducible rfl
              try simp only [Act.put, List.setIfInBounds_toArray, List.set_cons_zero, List.set_cons_succ]
              refine wpAnyH_take (i := 13) (oi := { dst := some 138, op := Op.move (Operand.tmp 8), type := 26, pos := "law.go:137", after := #[{ on := 12, ground := Ground.guard }], guard := some (12, false) }) (v := ?_) rfl (by kernel_rfl) (by kernel_rfl) (by kernel_rfl) (fun _ _ _ h => h) (Or.inl ⟨by rfl, ?_⟩) hHeld ?_
              rotate_left
              · intro w hSw; (try dsimp only at hSw); go_simp; first | done | with_reducible rfl
              try simp only [Act.put, List.setIfInBounds_toArray, List.set_cons_zero, List.set_cons_succ]
              refine wpAnyH_take (i := 16) (oi := { dst := some 141, op := Op.move (Operand.tmp 9), type := 28, pos := "law.go:137", after := #[{ on := 12, ground := Ground.guard }], guard := some (12, false) }) (v := ?_) rfl (by kernel_rfl) (by kernel_rfl) (by kernel_rfl) (fun _ _ _ h => h) (Or.inl ⟨by rfl, ?_⟩) hHeld ?_
              rotate_left
              · intro w hSw; (try dsimp only at hSw); go_simp; first | done | with_reducible rfl
              try simp only [Act.put, List.setIfInBounds_toArray, List.set_cons_zero, List.set_cons_succ]
              refine wpAnyH_take (i := 17) (oi := { dst := some 142, op := Op.nilCheck (Operand.tmp 141), type := 0, pos := "law.go:137", after := #[{ on := 16, ground := Ground.data }, { on := 12, ground := Ground.guard }], guard := some (12, false) }) (v := ?_) rfl (by kernel_rfl) (by kernel_rfl) (by kernel_rfl) (fun _ _ _ h => h) (Or.inl ⟨by rfl, ?_⟩) hHeld ?_
              rotate_left
              · intro w hSw; (try dsimp only at hSw); go_simp; first | done | with_reducible rfl
              try simp only [Act.put, List.setIfInBounds_toArray, List.set_cons_zero, List.set_cons_succ]
              refine wpAnyH_take (i := 18) (oi := { dst := some 143, op := Op.fieldAddr 30 (Operand.tmp 142) 1, type := 0, pos := "law.go:137", after := #[{ on := 17, ground := Ground.data }, { on := 12, ground := Ground.guard }], guard := some (12, false) }) (v := ?_) rfl (by kernel_rfl) (by kernel_rfl) (by kernel_rfl) (fun _ _ _ h => h) (Or.inl ⟨by rfl, ?_⟩) hHeld ?_
              rotate_left
              · intro w hSw; (try dsimp only at hSw); go_simp; first | done | with_reducible rfl
              try simp only [Act.put, List.setIfInBounds_toArray, List.set_cons_zero, List.set_cons_succ]
              refine wpAnyH_take (i := 19) (oi := { dst := some 144, op := Op.load 4 (Operand.tmp 143), type := 4, pos := "law.go:137", after := #[{ on := 18, ground := Ground.data }, { on := 12, ground := Ground.guard }], guard := some (12, false) }) (v := ?_) rfl (by kernel_rfl) (by kernel_rfl) (by kernel_rfl) (fun _ _ _ h => h) (Or.inl ⟨by rfl, ?_⟩) hHeld ?_
              rotate_left
              · intro w hSw; (try dsimp only at hSw); have c19 := hSw.2; go_simp; first | done | with_reducible rfl
              try simp only [Act.put, List.setIfInBounds_toArray, List.set_cons_zero, List.set_cons_succ]
              refine wpAnyH_ready (rs := [14]) (by kernel_rfl) (by simp) ?_
              refine AllReadyH.cons (o := { dst := some 139, op := Op.call { callee := Callee.value (Operand.func 26), args := #[Operand.tmp 138], argTypes := #[26] }, type := 42, pos := "law.go:137", after := #[{ on := 13, ground := Ground.data }, { on := 12, ground := Ground.chain }, { on := 12, ground := Ground.guard }], guard := some (12, false) }) rfl (fun K hK => ?_) AllReadyH.nil
              clear hHeld
              go_simp
              refine HER.out.mono ?_
              rintro e z2 ⟨rfl, rfl⟩
              refine hK.out _ _ (HD.out) (fun hHeld => ?_)
              clear hK K
              try simp only [Act.put, List.setIfInBounds_toArray, List.set_cons_zero, List.set_cons_succ]
              refine wpAnyH_take (i := 15) (oi := { dst := some 140, op := Op.binOp BinOp.neq 42 (Operand.tmp 139) (Operand.const (Value.int IntKind.i64 0)) 42, type := 4, pos := "law.go:137", after := #[{ on := 14, ground := Ground.data }, { on := 12, ground := Ground.guard }], guard := some (12, false) }) (v := ?_) rfl (by kernel_rfl) (by kernel_rfl) (by kernel_rfl) (fun _ _ _ h => h) (Or.inl ⟨by rfl, ?_⟩) hHeld ?_
              rotate_left
              · intro w hSw; (try dsimp only at hSw); go_simp; first | done | with_reducible rfl
              try simp only [Act.put, List.setIfInBounds_toArray, List.set_cons_zero, List.set_cons_succ]
              refine wpAnyH_take (i := 20) (oi := { dst := some 145, op := Op.binOp BinOp.neq 4 (Operand.tmp 140) (Operand.tmp 144) 4, type := 4, pos := "law.go:137", after := #[{ on := 15, ground := Ground.data }, { on := 19, ground := Ground.data }, { on := 12, ground := Ground.guard }], guard := some (12, false) }) (v := ?_) rfl (by kernel_rfl) (by kernel_rfl) (by kernel_rfl) (fun _ _ _ h => h) (Or.inl ⟨by rfl, ?_⟩) hHeld ?_
              rotate_left
              · intro w hSw; (try dsimp only at hSw); go_simp; first | done | with_reducible rfl
              try simp only [Act.put, List.setIfInBounds_toArray, List.set_cons_zero, List.set_cons_succ]
              refine wpAnyH_take (i := 21) (oi := { dst := some 146, op := Op.pick (Operand.tmp 137) (Operand.const (Value.bool true)) (Operand.tmp 145), type := 4, pos := "law.go:137", after := #[{ on := 12, ground := Ground.data }, { on := 20, ground := Ground.data }], guard := none }) (v := ?_) rfl (by kernel_rfl) (by kernel_rfl) (by kernel_rfl) (fun _ _ _ h => h) (Or.inl ⟨by rfl, ?_⟩) hHeld ?_
              rotate_left
              · intro w hSw; (try dsimp only at hSw); go_simp; first | done | with_reducible rfl
              try simp only [Act.put, List.setIfInBounds_toArray, List.set_cons_zero, List.set_cons_succ]
              refine wpAnyH_done (by kernel_rfl) ?_ _
              clear hHeld
              go_wp2_with fail
              go_roundw
              case rel => exact ⟨k + 1, by omega, by go_num, bs2, true, F', G2, HRd, HMd, HFGz, HBd, HXz, HLz⟩
              case measure => simp [intOf]; omega
            · cases st2 with
              | true =>
                have HRd := hide (show Rd tz.drew w.heap.size F' g bs2 true from HRz.out.keep (Keep.drew (fun _ => False) tz) (fun _ _ => id))
                have HMd := hide (show RdM tz.drew w.heap.size G2 gm bs2 true from HMz.out.keep (Keep.drew (fun _ => False) tz) (fun _ _ => id))
                have HBd := hide (show Below w.heap.size w tz.drew from HBz.out.drew)
                obtain ⟨am, cm, _, _, _, d0, d1, _, _⟩ := HMd.out.cells
                have HD := hide (And.intro d0 d1)
                clear d0 d1
                have HLF := hide (left_any tz.drew _ _ _ _ _ HRd.out)
                have HER := hide (err_any tz.drew _ _ _ _ _ HRd.out)
                rw [show errOf true = 2 from rfl] at HER
                obtain ⟨lz, hlz⟩ : ∃ lz, bs2.length = lz := ⟨_, rfl⟩
                rw [hlz] at HD HLF
                clear hlz
                go_wp2_with fail
                refine wp_region_held_drew (S := fun w' => w'.cell? ⟨gm, 0, none⟩ = some (.slice am lz cm) ∧ w'.cell? ⟨gm, 1, none⟩ = some (.bool true)) (by kernel_rfl) HD.out (fun hHeld => ?_)
                refine wpAnyH_take (i := 0) (oi := { dst := some 125, op := Op.move (Operand.tmp 13), type := 4, pos := "law.go:137", after := #[], guard := none }) (v := ?_) rfl (by kernel_rfl) (by kernel_rfl) (by kernel_rfl) (fun _ _ _ h => h) (Or.inl ⟨by rfl, ?_⟩) hHeld ?_
                rotate_left
                · intro w hSw; (try dsimp only at hSw); go_simp; first | done | with_reducible rfl
                try simp only [Act.put, List.setIfInBounds_toArray, List.set_cons_zero, List.set_cons_succ]
                refine wpAnyH_take (i := 1) (oi := { dst := some 126, op := Op.unOp UnOp.not 4 (Operand.tmp 125), type := 4, pos := "law.go:137", after := #[{ on := 0, ground := Ground.data }], guard := none }) (v := ?_) rfl (by kernel_rfl) (by kernel_rfl) (by kernel_rfl) (fun _ _ _ h => h) (Or.inl ⟨by rfl, ?_⟩) hHeld ?_
                rotate_left
                · intro w hSw; (try dsimp only at hSw); go_simp; first | done | with_reducible rfl
                try simp only [Act.put, List.setIfInBounds_toArray, List.set_cons_zero, List.set_cons_succ]
                refine wpAnyH_take (i := 2) (oi := { dst := some 127, op := Op.move (Operand.tmp 126), type := 4, pos := "law.go:137", after := #[{ on := 1, ground := Ground.data }], guard := none }) (v := ?_) rfl (by kernel_rfl) (by kernel_rfl) (by kernel_rfl) (fun _ _ _ h => h) (Or.inl ⟨by rfl, ?_⟩) hHeld ?_
                rotate_left
                · intro w hSw; (try dsimp only at hSw); go_simp; first | done | with_reducible rfl
                try simp only [Act.put, List.setIfInBounds_toArray, List.set_cons_zero, List.set_cons_succ]
                refine wpAnyH_take (i := 3) (oi := { dst := some 128, op := Op.move (Operand.tmp 8), type := 26, pos := "law.go:137", after := #[{ on := 2, ground := Ground.guard }], guard := some (2, false) }) (v := ?_) rfl (by kernel_rfl) (by kernel_rfl) (by kernel_rfl) (fun _ _ _ h => h) (Or.inl ⟨by rfl, ?_⟩) hHeld ?_
                rotate_left
                · intro w hSw; (try dsimp only at hSw); go_simp; first | done | with_reducible rfl
                try simp only [Act.put, List.setIfInBounds_toArray, List.set_cons_zero, List.set_cons_succ]
                refine wpAnyH_take (i := 5) (oi := { dst := some 130, op := Op.move (Operand.tmp 9), type := 28, pos := "law.go:137", after := #[{ on := 2, ground := Ground.guard }], guard := some (2, false) }) (v := ?_) rfl (by kernel_rfl) (by kernel_rfl) (by kernel_rfl) (fun _ _ _ h => h) (Or.inl ⟨by rfl, ?_⟩) hHeld ?_
                rotate_left
                · intro w hSw; (try dsimp only at hSw); go_simp; first | done | with_reducible rfl
                try simp only [Act.put, List.setIfInBounds_toArray, List.set_cons_zero, List.set_cons_succ]
                refine wpAnyH_take (i := 6) (oi := { dst := some 131, op := Op.nilCheck (Operand.tmp 130), type := 0, pos := "law.go:137", after := #[{ on := 5, ground := Ground.data }, { on := 2, ground := Ground.guard }], guard := some (2, false) }) (v := ?_) rfl (by kernel_rfl) (by kernel_rfl) (by kernel_rfl) (fun _ _ _ h => h) (Or.inl ⟨by rfl, ?_⟩) hHeld ?_
                rotate_left
                · intro w hSw; (try dsimp only at hSw); go_simp; first | done | with_reducible rfl
                try simp only [Act.put, List.setIfInBounds_toArray, List.set_cons_zero, List.set_cons_succ]
                refine wpAnyH_take (i := 7) (oi := { dst := some 132, op := Op.fieldAddr 30 (Operand.tmp 131) 0, type := 0, pos := "law.go:137", after := #[{ on := 6, ground := Ground.data }, { on := 2, ground := Ground.guard }], guard := some (2, false) }) (v := ?_) rfl (by kernel_rfl) (by kernel_rfl) (by kernel_rfl) (fun _ _ _ h => h) (Or.inl ⟨by rfl, ?_⟩) hHeld ?_
                rotate_left
                · intro w hSw; (try dsimp only at hSw); go_simp; first | done | with_reducible rfl
                try simp only [Act.put, List.setIfInBounds_toArray, List.set_cons_zero, List.set_cons_succ]
                refine wpAnyH_take (i := 8) (oi := { dst := some 133, op := Op.load 22 (Operand.tmp 132), type := 22, pos := "law.go:137", after := #[{ on := 7, ground := Ground.data }, { on := 2, ground := Ground.guard }], guard := some (2, false) }) (v := ?_) rfl (by kernel_rfl) (by kernel_rfl) (by kernel_rfl) (fun _ _ _ h => h) (Or.inl ⟨by rfl, ?_⟩) hHeld ?_
                rotate_left
                · intro w hSw; (try dsimp only at hSw); have c8 := hSw.1; go_simp; first | done | with_reducible rfl
                try simp only [Act.put, List.setIfInBounds_toArray, List.set_cons_zero, List.set_cons_succ]
                refine wpAnyH_take (i := 9) (oi := { dst := some 134, op := Op.call { callee := Callee.builtin Builtin.len, args := #[Operand.tmp 133], argTypes := #[22] }, type := 3, pos := "law.go:137", after := #[{ on := 8, ground := Ground.data }, { on := 2, ground := Ground.guard }], guard := some (2, false) }) (v := ?_) rfl (by kernel_rfl) (by kernel_rfl) (by kernel_rfl) (fun _ _ _ h => h) (Or.inl ⟨by rfl, ?_⟩) hHeld ?_
                rotate_left
                · intro w hSw; (try dsimp only at hSw); go_simp; first | done | with_reducible rfl
                try simp only [Act.put, List.setIfInBounds_toArray, List.set_cons_zero, List.set_cons_succ]
                refine wpAnyH_ready (rs := [4]) (by kernel_rfl) (by simp) ?_
                refine AllReadyH.cons (o := { dst := some 129, op := Op.call { callee := Callee.value (Operand.func 25), args := #[Operand.tmp 128], argTypes := #[26] }, type := 3, pos := "law.go:137", after := #[{ on := 3, ground := Ground.data }, { on := 2, ground := Ground.chain }, { on := 2, ground := Ground.guard }], guard := some (2, false) }) rfl (fun K hK => ?_) AllReadyH.nil
                clear hHeld
                go_simp
                refine HLF.out.mono ?_
                rintro e z1 ⟨rfl, rfl⟩
                refine hK.out _ _ (HD.out) (fun hHeld => ?_)
                clear hK K
                try simp only [Act.put, List.setIfInBounds_toArray, List.set_cons_zero, List.set_cons_succ]
                refine wpAnyH_take (i := 10) (oi := { dst := some 135, op := Op.binOp BinOp.neq 3 (Operand.tmp 129) (Operand.tmp 134) 3, type := 4, pos := "law.go:137", after := #[{ on := 4, ground := Ground.data }, { on := 9, ground := Ground.data }, { on := 2, ground := Ground.guard }], guard := some (2, false) }) (v := ?_) rfl (by kernel_rfl) (by kernel_rfl) (by kernel_rfl) (fun _ _ _ h => h) (Or.inl ⟨by rfl, ?_⟩) hHeld ?_
                rotate_left
                · intro w hSw; (try dsimp only at hSw); go_simp; first | done | with_reducible rfl
                try simp only [Act.put, List.setIfInBounds_toArray, List.set_cons_zero, List.set_cons_succ]
                refine wpAnyH_take (i := 11) (oi := { dst := some 136, op := Op.pick (Operand.tmp 127) (Operand.const (Value.bool true)) (Operand.tmp 135), type := 4, pos := "law.go:137", after := #[{ on := 2, ground := Ground.data }, { on := 10, ground := Ground.data }], guard := none }) (v := ?_) rfl (by kernel_rfl) (by kernel_rfl) (by kernel_rfl) (fun _ _ _ h => h) (Or.inl ⟨by rfl, ?_⟩) hHeld ?_
                rotate_left
                · intro w hSw; (try dsimp only at hSw); go_simp; first | done | with_reducible rfl
                try simp only [Act.put, List.setIfInBounds_toArray, List.set_cons_zero, List.set_cons_succ]
                refine wpAnyH_take (i := 12) (oi := { dst := some 137, op := Op.move (Operand.tmp 136), type := 4, pos := "law.go:137", after := #[{ on := 11, ground := Ground.data }, { on := 4, ground := Ground.chain }], guard := none }) (v := ?_) rfl (by kernel_rfl) (by kernel_rfl) (by kernel_rfl) (fun _ _ _ h => h) (Or.inl ⟨by rfl, ?_⟩) hHeld ?_
                rotate_left
                · intro w hSw; (try dsimp only at hSw); go_simp; first | done | with_reducible rfl
                try simp only [Act.put, List.setIfInBounds_toArray, List.set_cons_zero, List.set_cons_succ]
                refine wpAnyH_take (i := 13) (oi := { dst := some 138, op := Op.move (Operand.tmp 8), type := 26, pos := "law.go:137", after := #[{ on := 12, ground := Ground.guard }], guard := some (12, false) }) (v := ?_) rfl (by kernel_rfl) (by kernel_rfl) (by kernel_rfl) (fun _ _ _ h => h) (Or.inl ⟨by rfl, ?_⟩) hHeld ?_
                rotate_left
                · intro w hSw; (try dsimp only at hSw); go_simp; first | done | with_reducible rfl
                try simp only [Act.put, List.setIfInBounds_toArray, List.set_cons_zero, List.set_cons_succ]
                refine wpAnyH_take (i := 16) (oi := { dst := some 141, op := Op.move (Operand.tmp 9), type := 28, pos := "law.go:137", after := #[{ on := 12, ground := Ground.guard }], guard := some (12, false) }) (v := ?_) rfl (by kernel_rfl) (by kernel_rfl) (by kernel_rfl) (fun _ _ _ h => h) (Or.inl ⟨by rfl, ?_⟩) hHeld ?_
                rotate_left
                · intro w hSw; (try dsimp only at hSw); go_simp; first | done | with_reducible rfl
                try simp only [Act.put, List.setIfInBounds_toArray, List.set_cons_zero, List.set_cons_succ]
                refine wpAnyH_take (i := 17) (oi := { dst := some 142, op := Op.nilCheck (Operand.tmp 141), type := 0, pos := "law.go:137", after := #[{ on := 16, ground := Ground.data }, { on := 12, ground := Ground.guard }], guard := some (12, false) }) (v := ?_) rfl (by kernel_rfl) (by kernel_rfl) (by kernel_rfl) (fun _ _ _ h => h) (Or.inl ⟨by rfl, ?_⟩) hHeld ?_
                rotate_left
                · intro w hSw; (try dsimp only at hSw); go_simp; first | done | with_reducible rfl
                try simp only [Act.put, List.setIfInBounds_toArray, List.set_cons_zero, List.set_cons_succ]
                refine wpAnyH_take (i := 18) (oi := { dst := some 143, op := Op.fieldAddr 30 (Operand.tmp 142) 1, type := 0, pos := "law.go:137", after := #[{ on := 17, ground := Ground.data }, { on := 12, ground := Ground.guard }], guard := some (12, false) }) (v := ?_) rfl (by kernel_rfl) (by kernel_rfl) (by kernel_rfl) (fun _ _ _ h => h) (Or.inl ⟨by rfl, ?_⟩) hHeld ?_
                rotate_left
                · intro w hSw; (try dsimp only at hSw); go_simp; first | done | with_reducible rfl
                try simp only [Act.put, List.setIfInBounds_toArray, List.set_cons_zero, List.set_cons_succ]
                refine wpAnyH_take (i := 19) (oi := { dst := some 144, op := Op.load 4 (Operand.tmp 143), type := 4, pos := "law.go:137", after := #[{ on := 18, ground := Ground.data }, { on := 12, ground := Ground.guard }], guard := some (12, false) }) (v := ?_) rfl (by kernel_rfl) (by kernel_rfl) (by kernel_rfl) (fun _ _ _ h => h) (Or.inl ⟨by rfl, ?_⟩) hHeld ?_
                rotate_left
                · intro w hSw; (try dsimp only at hSw); have c19 := hSw.2; go_simp; first | done | with_reducible rfl
                try simp only [Act.put, List.setIfInBounds_toArray, List.set_cons_zero, List.set_cons_succ]
                refine wpAnyH_ready (rs := [14]) (by kernel_rfl) (by simp) ?_
                refine AllReadyH.cons (o := { dst := some 139, op := Op.call { callee := Callee.value (Operand.func 26), args := #[Operand.tmp 138], argTypes := #[26] }, type := 42, pos := "law.go:137", after := #[{ on := 13, ground := Ground.data }, { on := 12, ground := Ground.chain }, { on := 12, ground := Ground.guard }], guard := some (12, false) }) rfl (fun K hK => ?_) AllReadyH.nil
                clear hHeld
                go_simp
                refine HER.out.mono ?_
                rintro e z2 ⟨rfl, rfl⟩
                refine hK.out _ _ (HD.out) (fun hHeld => ?_)
                clear hK K
                try simp only [Act.put, List.setIfInBounds_toArray, List.set_cons_zero, List.set_cons_succ]
                refine wpAnyH_take (i := 15) (oi := { dst := some 140, op := Op.binOp BinOp.neq 42 (Operand.tmp 139) (Operand.const (Value.int IntKind.i64 0)) 42, type := 4, pos := "law.go:137", after := #[{ on := 14, ground := Ground.data }, { on := 12, ground := Ground.guard }], guard := some (12, false) }) (v := ?_) rfl (by kernel_rfl) (by kernel_rfl) (by kernel_rfl) (fun _ _ _ h => h) (Or.inl ⟨by rfl, ?_⟩) hHeld ?_
                rotate_left
                · intro w hSw; (try dsimp only at hSw); go_simp; first | done | with_reducible rfl
                try simp only [Act.put, List.setIfInBounds_toArray, List.set_cons_zero, List.set_cons_succ]
                refine wpAnyH_take (i := 20) (oi := { dst := some 145, op := Op.binOp BinOp.neq 4 (Operand.tmp 140) (Operand.tmp 144) 4, type := 4, pos := "law.go:137", after := #[{ on := 15, ground := Ground.data }, { on := 19, ground := Ground.data }, { on := 12, ground := Ground.guard }], guard := some (12, false) }) (v := ?_) rfl (by kernel_rfl) (by kernel_rfl) (by kernel_rfl) (fun _ _ _ h => h) (Or.inl ⟨by rfl, ?_⟩) hHeld ?_
                rotate_left
                · intro w hSw; (try dsimp only at hSw); go_simp; first | done | with_reducible rfl
                try simp only [Act.put, List.setIfInBounds_toArray, List.set_cons_zero, List.set_cons_succ]
                refine wpAnyH_take (i := 21) (oi := { dst := some 146, op := Op.pick (Operand.tmp 137) (Operand.const (Value.bool true)) (Operand.tmp 145), type := 4, pos := "law.go:137", after := #[{ on := 12, ground := Ground.data }, { on := 20, ground := Ground.data }], guard := none }) (v := ?_) rfl (by kernel_rfl) (by kernel_rfl) (by kernel_rfl) (fun _ _ _ h => h) (Or.inl ⟨by rfl, ?_⟩) hHeld ?_
                rotate_left
                · intro w hSw; (try dsimp only at hSw); go_simp; first | done | with_reducible rfl
                try simp only [Act.put, List.setIfInBounds_toArray, List.set_cons_zero, List.set_cons_succ]
                refine wpAnyH_done (by kernel_rfl) ?_ _
                clear hHeld
                go_wp2_with fail
                go_roundw
                case rel => exact ⟨k + 1, by omega, by go_num, bs2, true, F', G2, HRd, HMd, HFGz, HBd, HXz, HLz⟩
                case measure => simp [intOf]; omega
              | false =>
                have HRd := hide (show Rd tz.drew w.heap.size F' g bs2 false from HRz.out.keep (Keep.drew (fun _ => False) tz) (fun _ _ => id))
                have HMd := hide (show RdM tz.drew w.heap.size G2 gm bs2 false from HMz.out.keep (Keep.drew (fun _ => False) tz) (fun _ _ => id))
                have HBd := hide (show Below w.heap.size w tz.drew from HBz.out.drew)
                obtain ⟨am, cm, _, _, _, d0, d1, _, _⟩ := HMd.out.cells
                have HD := hide (And.intro d0 d1)
                clear d0 d1
                have HLF := hide (left_any tz.drew _ _ _ _ _ HRd.out)
                have HER := hide (err_any tz.drew _ _ _ _ _ HRd.out)
                rw [show errOf false = 0 from rfl] at HER
                obtain ⟨lz, hlz⟩ : ∃ lz, bs2.length = lz := ⟨_, rfl⟩
                rw [hlz] at HD HLF
                clear hlz
                go_wp2_with fail
                refine wp_region_held_drew (S := fun w' => w'.cell? ⟨gm, 0, none⟩ = some (.slice am lz cm) ∧ w'.cell? ⟨gm, 1, none⟩ = some (.bool false)) (by kernel_rfl) HD.out (fun hHeld => ?_)
                refine wpAnyH_take (i := 0) (oi := { dst := some 125, op := Op.move (Operand.tmp 13), type := 4, pos := "law.go:137", after := #[], guard := none }) (v := ?_) rfl (by kernel_rfl) (by kernel_rfl) (by kernel_rfl) (fun _ _ _ h => h) (Or.inl ⟨by rfl, ?_⟩) hHeld ?_
                rotate_left
                · intro w hSw; (try dsimp only at hSw); go_simp; first | done | with_reducible rfl
                try simp only [Act.put, List.setIfInBounds_toArray, List.set_cons_zero, List.set_cons_succ]
                refine wpAnyH_take (i := 1) (oi := { dst := some 126, op := Op.unOp UnOp.not 4 (Operand.tmp 125), type := 4, pos := "law.go:137", after := #[{ on := 0, ground := Ground.data }], guard := none }) (v := ?_) rfl (by kernel_rfl) (by kernel_rfl) (by kernel_rfl) (fun _ _ _ h => h) (Or.inl ⟨by rfl, ?_⟩) hHeld ?_
                rotate_left
                · intro w hSw; (try dsimp only at hSw); go_simp; first | done | with_reducible rfl
                try simp only [Act.put, List.setIfInBounds_toArray, List.set_cons_zero, List.set_cons_succ]
                refine wpAnyH_take (i := 2) (oi := { dst := some 127, op := Op.move (Operand.tmp 126), type := 4, pos := "law.go:137", after := #[{ on := 1, ground := Ground.data }], guard := none }) (v := ?_) rfl (by kernel_rfl) (by kernel_rfl) (by kernel_rfl) (fun _ _ _ h => h) (Or.inl ⟨by rfl, ?_⟩) hHeld ?_
                rotate_left
                · intro w hSw; (try dsimp only at hSw); go_simp; first | done | with_reducible rfl
                try simp only [Act.put, List.setIfInBounds_toArray, List.set_cons_zero, List.set_cons_succ]
                refine wpAnyH_take (i := 3) (oi := { dst := some 128, op := Op.move (Operand.tmp 8), type := 26, pos := "law.go:137", after := #[{ on := 2, ground := Ground.guard }], guard := some (2, false) }) (v := ?_) rfl (by kernel_rfl) (by kernel_rfl) (by kernel_rfl) (fun _ _ _ h => h) (Or.inl ⟨by rfl, ?_⟩) hHeld ?_
                rotate_left
                · intro w hSw; (try dsimp only at hSw); go_simp; first | done | with_reducible rfl
                try simp only [Act.put, List.setIfInBounds_toArray, List.set_cons_zero, List.set_cons_succ]
                refine wpAnyH_take (i := 5) (oi := { dst := some 130, op := Op.move (Operand.tmp 9), type := 28, pos := "law.go:137", after := #[{ on := 2, ground := Ground.guard }], guard := some (2, false) }) (v := ?_) rfl (by kernel_rfl) (by kernel_rfl) (by kernel_rfl) (fun _ _ _ h => h) (Or.inl ⟨by rfl, ?_⟩) hHeld ?_
                rotate_left
                · intro w hSw; (try dsimp only at hSw); go_simp; first | done | with_reducible rfl
                try simp only [Act.put, List.setIfInBounds_toArray, List.set_cons_zero, List.set_cons_succ]
                refine wpAnyH_take (i := 6) (oi := { dst := some 131, op := Op.nilCheck (Operand.tmp 130), type := 0, pos := "law.go:137", after := #[{ on := 5, ground := Ground.data }, { on := 2, ground := Ground.guard }], guard := some (2, false) }) (v := ?_) rfl (by kernel_rfl) (by kernel_rfl) (by kernel_rfl) (fun _ _ _ h => h) (Or.inl ⟨by rfl, ?_⟩) hHeld ?_
                rotate_left
                · intro w hSw; (try dsimp only at hSw); go_simp; first | done | with_reducible rfl
                try simp only [Act.put, List.setIfInBounds_toArray, List.set_cons_zero, List.set_cons_succ]
                refine wpAnyH_take (i := 7) (oi := { dst := some 132, op := Op.fieldAddr 30 (Operand.tmp 131) 0, type := 0, pos := "law.go:137", after := #[{ on := 6, ground := Ground.data }, { on := 2, ground := Ground.guard }], guard := some (2, false) }) (v := ?_) rfl (by kernel_rfl) (by kernel_rfl) (by kernel_rfl) (fun _ _ _ h => h) (Or.inl ⟨by rfl, ?_⟩) hHeld ?_
                rotate_left
                · intro w hSw; (try dsimp only at hSw); go_simp; first | done | with_reducible rfl
                try simp only [Act.put, List.setIfInBounds_toArray, List.set_cons_zero, List.set_cons_succ]
                refine wpAnyH_take (i := 8) (oi := { dst := some 133, op := Op.load 22 (Operand.tmp 132), type := 22, pos := "law.go:137", after := #[{ on := 7, ground := Ground.data }, { on := 2, ground := Ground.guard }], guard := some (2, false) }) (v := ?_) rfl (by kernel_rfl) (by kernel_rfl) (by kernel_rfl) (fun _ _ _ h => h) (Or.inl ⟨by rfl, ?_⟩) hHeld ?_
                rotate_left
                · intro w hSw; (try dsimp only at hSw); have c8 := hSw.1; go_simp; first | done | with_reducible rfl
                try simp only [Act.put, List.setIfInBounds_toArray, List.set_cons_zero, List.set_cons_succ]
                refine wpAnyH_take (i := 9) (oi := { dst := some 134, op := Op.call { callee := Callee.builtin Builtin.len, args := #[Operand.tmp 133], argTypes := #[22] }, type := 3, pos := "law.go:137", after := #[{ on := 8, ground := Ground.data }, { on := 2, ground := Ground.guard }], guard := some (2, false) }) (v := ?_) rfl (by kernel_rfl) (by kernel_rfl) (by kernel_rfl) (fun _ _ _ h => h) (Or.inl ⟨by rfl, ?_⟩) hHeld ?_
                rotate_left
                · intro w hSw; (try dsimp only at hSw); go_simp; first | done | with_reducible rfl
                try simp only [Act.put, List.setIfInBounds_toArray, List.set_cons_zero, List.set_cons_succ]
                refine wpAnyH_ready (rs := [4]) (by kernel_rfl) (by simp) ?_
                refine AllReadyH.cons (o := { dst := some 129, op := Op.call { callee := Callee.value (Operand.func 25), args := #[Operand.tmp 128], argTypes := #[26] }, type := 3, pos := "law.go:137", after := #[{ on := 3, ground := Ground.data }, { on := 2, ground := Ground.chain }, { on := 2, ground := Ground.guard }], guard := some (2, false) }) rfl (fun K hK => ?_) AllReadyH.nil
                clear hHeld
                go_simp
                refine HLF.out.mono ?_
                rintro e z1 ⟨rfl, rfl⟩
                refine hK.out _ _ (HD.out) (fun hHeld => ?_)
                clear hK K
                try simp only [Act.put, List.setIfInBounds_toArray, List.set_cons_zero, List.set_cons_succ]
                refine wpAnyH_take (i := 10) (oi := { dst := some 135, op := Op.binOp BinOp.neq 3 (Operand.tmp 129) (Operand.tmp 134) 3, type := 4, pos := "law.go:137", after := #[{ on := 4, ground := Ground.data }, { on := 9, ground := Ground.data }, { on := 2, ground := Ground.guard }], guard := some (2, false) }) (v := ?_) rfl (by kernel_rfl) (by kernel_rfl) (by kernel_rfl) (fun _ _ _ h => h) (Or.inl ⟨by rfl, ?_⟩) hHeld ?_
                rotate_left
                · intro w hSw; (try dsimp only at hSw); go_simp; first | done | with_reducible rfl
                try simp only [Act.put, List.setIfInBounds_toArray, List.set_cons_zero, List.set_cons_succ]
                refine wpAnyH_take (i := 11) (oi := { dst := some 136, op := Op.pick (Operand.tmp 127) (Operand.const (Value.bool true)) (Operand.tmp 135), type := 4, pos := "law.go:137", after := #[{ on := 2, ground := Ground.data }, { on := 10, ground := Ground.data }], guard := none }) (v := ?_) rfl (by kernel_rfl) (by kernel_rfl) (by kernel_rfl) (fun _ _ _ h => h) (Or.inl ⟨by rfl, ?_⟩) hHeld ?_
                rotate_left
                · intro w hSw; (try dsimp only at hSw); go_simp; first | done | with_reducible rfl
                try simp only [Act.put, List.setIfInBounds_toArray, List.set_cons_zero, List.set_cons_succ]
                refine wpAnyH_take (i := 12) (oi := { dst := some 137, op := Op.move (Operand.tmp 136), type := 4, pos := "law.go:137", after := #[{ on := 11, ground := Ground.data }, { on := 4, ground := Ground.chain }], guard := none }) (v := ?_) rfl (by kernel_rfl) (by kernel_rfl) (by kernel_rfl) (fun _ _ _ h => h) (Or.inl ⟨by rfl, ?_⟩) hHeld ?_
                rotate_left
                · intro w hSw; (try dsimp only at hSw); go_simp; first | done | with_reducible rfl
                try simp only [Act.put, List.setIfInBounds_toArray, List.set_cons_zero, List.set_cons_succ]
                refine wpAnyH_take (i := 13) (oi := { dst := some 138, op := Op.move (Operand.tmp 8), type := 26, pos := "law.go:137", after := #[{ on := 12, ground := Ground.guard }], guard := some (12, false) }) (v := ?_) rfl (by kernel_rfl) (by kernel_rfl) (by kernel_rfl) (fun _ _ _ h => h) (Or.inl ⟨by rfl, ?_⟩) hHeld ?_
                rotate_left
                · intro w hSw; (try dsimp only at hSw); go_simp; first | done | with_reducible rfl
                try simp only [Act.put, List.setIfInBounds_toArray, List.set_cons_zero, List.set_cons_succ]
                refine wpAnyH_take (i := 16) (oi := { dst := some 141, op := Op.move (Operand.tmp 9), type := 28, pos := "law.go:137", after := #[{ on := 12, ground := Ground.guard }], guard := some (12, false) }) (v := ?_) rfl (by kernel_rfl) (by kernel_rfl) (by kernel_rfl) (fun _ _ _ h => h) (Or.inl ⟨by rfl, ?_⟩) hHeld ?_
                rotate_left
                · intro w hSw; (try dsimp only at hSw); go_simp; first | done | with_reducible rfl
                try simp only [Act.put, List.setIfInBounds_toArray, List.set_cons_zero, List.set_cons_succ]
                refine wpAnyH_take (i := 17) (oi := { dst := some 142, op := Op.nilCheck (Operand.tmp 141), type := 0, pos := "law.go:137", after := #[{ on := 16, ground := Ground.data }, { on := 12, ground := Ground.guard }], guard := some (12, false) }) (v := ?_) rfl (by kernel_rfl) (by kernel_rfl) (by kernel_rfl) (fun _ _ _ h => h) (Or.inl ⟨by rfl, ?_⟩) hHeld ?_
                rotate_left
                · intro w hSw; (try dsimp only at hSw); go_simp; first | done | with_reducible rfl
                try simp only [Act.put, List.setIfInBounds_toArray, List.set_cons_zero, List.set_cons_succ]
                refine wpAnyH_take (i := 18) (oi := { dst := some 143, op := Op.fieldAddr 30 (Operand.tmp 142) 1, type := 0, pos := "law.go:137", after := #[{ on := 17, ground := Ground.data }, { on := 12, ground := Ground.guard }], guard := some (12, false) }) (v := ?_) rfl (by kernel_rfl) (by kernel_rfl) (by kernel_rfl) (fun _ _ _ h => h) (Or.inl ⟨by rfl, ?_⟩) hHeld ?_
                rotate_left
                · intro w hSw; (try dsimp only at hSw); go_simp; first | done | with_reducible rfl
                try simp only [Act.put, List.setIfInBounds_toArray, List.set_cons_zero, List.set_cons_succ]
                refine wpAnyH_take (i := 19) (oi := { dst := some 144, op := Op.load 4 (Operand.tmp 143), type := 4, pos := "law.go:137", after := #[{ on := 18, ground := Ground.data }, { on := 12, ground := Ground.guard }], guard := some (12, false) }) (v := ?_) rfl (by kernel_rfl) (by kernel_rfl) (by kernel_rfl) (fun _ _ _ h => h) (Or.inl ⟨by rfl, ?_⟩) hHeld ?_
                rotate_left
                · intro w hSw; (try dsimp only at hSw); have c19 := hSw.2; go_simp; first | done | with_reducible rfl
                try simp only [Act.put, List.setIfInBounds_toArray, List.set_cons_zero, List.set_cons_succ]
                refine wpAnyH_ready (rs := [14]) (by kernel_rfl) (by simp) ?_
                refine AllReadyH.cons (o := { dst := some 139, op := Op.call { callee := Callee.value (Operand.func 26), args := #[Operand.tmp 138], argTypes := #[26] }, type := 42, pos := "law.go:137", after := #[{ on := 13, ground := Ground.data }, { on := 12, ground := Ground.chain }, { on := 12, ground := Ground.guard }], guard := some (12, false) }) rfl (fun K hK => ?_) AllReadyH.nil
                clear hHeld
                go_simp
                refine HER.out.mono ?_
                rintro e z2 ⟨rfl, rfl⟩
                refine hK.out _ _ (HD.out) (fun hHeld => ?_)
                clear hK K
                try simp only [Act.put, List.setIfInBounds_toArray, List.set_cons_zero, List.set_cons_succ]
                refine wpAnyH_take (i := 15) (oi := { dst := some 140, op := Op.binOp BinOp.neq 42 (Operand.tmp 139) (Operand.const (Value.int IntKind.i64 0)) 42, type := 4, pos := "law.go:137", after := #[{ on := 14, ground := Ground.data }, { on := 12, ground := Ground.guard }], guard := some (12, false) }) (v := ?_) rfl (by kernel_rfl) (by kernel_rfl) (by kernel_rfl) (fun _ _ _ h => h) (Or.inl ⟨by rfl, ?_⟩) hHeld ?_
                rotate_left
                · intro w hSw; (try dsimp only at hSw); go_simp; first | done | with_reducible rfl
                try simp only [Act.put, List.setIfInBounds_toArray, List.set_cons_zero, List.set_cons_succ]
                refine wpAnyH_take (i := 20) (oi := { dst := some 145, op := Op.binOp BinOp.neq 4 (Operand.tmp 140) (Operand.tmp 144) 4, type := 4, pos := "law.go:137", after := #[{ on := 15, ground := Ground.data }, { on := 19, ground := Ground.data }, { on := 12, ground := Ground.guard }], guard := some (12, false) }) (v := ?_) rfl (by kernel_rfl) (by kernel_rfl) (by kernel_rfl) (fun _ _ _ h => h) (Or.inl ⟨by rfl, ?_⟩) hHeld ?_
                rotate_left
                · intro w hSw; (try dsimp only at hSw); go_simp; first | done | with_reducible rfl
                try simp only [Act.put, List.setIfInBounds_toArray, List.set_cons_zero, List.set_cons_succ]
                refine wpAnyH_take (i := 21) (oi := { dst := some 146, op := Op.pick (Operand.tmp 137) (Operand.const (Value.bool true)) (Operand.tmp 145), type := 4, pos := "law.go:137", after := #[{ on := 12, ground := Ground.data }, { on := 20, ground := Ground.data }], guard := none }) (v := ?_) rfl (by kernel_rfl) (by kernel_rfl) (by kernel_rfl) (fun _ _ _ h => h) (Or.inl ⟨by rfl, ?_⟩) hHeld ?_
                rotate_left
                · intro w hSw; (try dsimp only at hSw); go_simp; first | done | with_reducible rfl
                try simp only [Act.put, List.setIfInBounds_toArray, List.set_cons_zero, List.set_cons_succ]
                refine wpAnyH_done (by kernel_rfl) ?_ _
                clear hHeld
                go_wp2_with fail
                go_roundw
                case rel => exact ⟨k + 1, by omega, by go_num, bs2, false, F', G2, HRd, HMd, HFGz, HBd, HXz, HLz⟩
                case measure => simp [intOf]; omega
          by_cases hc1 : kd = 1
          · skip
            subst hc1
            have HA := hide (r32_all t1 w.heap.size F' g bs st HR1.out HTu.out HXR.out)
            go_wp2_with fail
            refine HA.out.mono ?_
            rintro e t2 ⟨v, rfl, rfl, hK, hR2⟩
            have HR2 := hide hR2
            have HM2 := hide (HM1.out.keep hK (fun j a b => HFG.out j b a))
            have HB2 := hide (hK.through HB1.out (fun j h => (HR1.out.ge j h).1) HB1.out.size)
            have HMM := hide (m32_all t2 w.heap.size G' gm bs st HM2.out HXR.out (by have := HBL.out; omega))
            have hw8 := v32_wrap st bs HXR.out
            obtain ⟨jd, hjd⟩ := stp_drop st (cut32 bs) bs (cut32_drop bs)
            obtain ⟨bs2, hbs2⟩ : ∃ bs2, (stp st (cut32 bs) bs).1 = bs2 := ⟨_, rfl⟩
            obtain ⟨st2, hst2⟩ : ∃ st2, (stp st (cut32 bs) bs).2 = st2 := ⟨_, rfl⟩
            rw [hbs2] at hjd HR2
            rw [hst2] at HR2
            unfold AllM at HMM
            rw [hbs2, hst2] at HMM
            have HXz : Hid (∀ x ∈ bs2, 0 ≤ x ∧ x < 256) := hide (fun x hx => HXR.out x (by rw [hjd] at hx; exact List.mem_of_mem_drop hx))
            have HLz : Tuck (bs2.length ≤ 20000) := tuck (by rw [hjd, List.length_drop]; have := HBL.out; omega)
            clear hbs2 hst2 hjd hK hR2 HA HM1 HB1 HR1
            generalize v32 st bs = vv at hw8 HMM ⊢
            go_wp2_with fail
            refine HMM.out.mono ?_
            rintro e tz ⟨v, rfl, rfl, hKM, hM3⟩
            have HRz := hide (HR2.out.keep hKM (fun j a b => HFG.out j a b))
            have HBz := hide (hKM.through HB2.out (fun j h => (HM2.out.ge j h).1) HB2.out.size)
            have HFGz : Hid (∀ k, F' k → ¬ Up G' t2 tz k) := hide (fun k a b => by
              rcases b with b | b
              · exact HFG.out k a b
              · have := (HR2.out.ge k a).2; omega)
            have HMz := hide hM3
            obtain ⟨G2, hG2⟩ : ∃ G2, Up G' t2 tz = G2 := ⟨_, rfl⟩
            rw [hG2] at HFGz HMz
            clear hG2 hKM hM3 HMM HM2 HB2 HR2 HFG hw8
            go_upto_region 30 with (fail)
            try simp only [beq_self_eq_true]
            by_cases hfl : (k : Int) = fl
            · have HFA := hide (fail_any tz _ F' g bs2 st2 HRz.out)
              go_wp2_with fail
              refine HFA.out.mono ?_
              rintro e ty ⟨rfl, hK, hR⟩
              have HMy := hide (HMz.out.keep hK (fun j a b => HFGz.out j b a))
              have HBy := hide (hK.through HBz.out (fun j h => (HRz.out.ge j h).1) HBz.out.size)
              have HSS := hide (HMy.out.stop true)
              have HRy := hide (hR.keep HSS.out.2 (fun j a b => HFGz.out j a b))
              have HBs := hide (HSS.out.2.through HBy.out (fun j h => (HMy.out.ge j h).1) HBy.out.size)
              have HMs := hide HSS.out.1
              obtain ⟨am0, cm0, _, _, _, _, _, _, f1⟩ := HMy.out.cells
              clear hK hR HSS HFA HRz HMz HBz
              go_upto_region 33 with (fail)
              clear f1 HMy HBy
              generalize ty.setCell ⟨gm, 1, none⟩ (.bool true) = tz at HRy HBs HMs ⊢
              have HRz := HRy
              have HMz := HMs
              have HBz := HBs
              clear HRy HMs HBs
              have HRd := hide (show Rd tz.drew w.heap.size F' g bs2 true from HRz.out.keep (Keep.drew (fun _ => False) tz) (fun _ _ => id))
              have HMd := hide (show RdM tz.drew w.heap.size G2 gm bs2 true from HMz.out.keep (Keep.drew (fun _ => False) tz) (fun _ _ => id))
              have HBd := hide (show Below w.heap.size w tz.drew from HBz.out.drew)
              obtain ⟨am, cm, _, _, _, d0, d1, _, _⟩ := HMd.out.cells
              have HD := hide (And.intro d0 d1)
              clear d0 d1
              have HLF := hide (left_any tz.drew _ _ _ _ _ HRd.out)
              have HER := hide (err_any tz.drew _ _ _ _ _ HRd.out)
              rw [show errOf true = 2 from rfl] at HER
              obtain ⟨lz, hlz⟩ : ∃ lz, bs2.length = lz := ⟨_, rfl⟩
              rw [hlz] at HD HLF
              clear hlz
              go_wp2_with fail
              refine wp_region_held_drew (S := fun w' => w'.cell? ⟨gm, 0, none⟩ = some (.slice am lz cm) ∧ w'.cell? ⟨gm, 1, none⟩ = some (.bool true)) (by kernel_rfl) HD.out (fun hHeld => ?_)
              refine wpAnyH_take (i := 0) (oi := { dst := some 125, op := Op.move (Operand.tmp 13), type := 4, pos := "law.go:137", after := #[], guard := none }) (v := ?_) rfl (by kernel_rfl) (by kernel_rfl) (by kernel_rfl) (fun _ _ _ h => h) (Or.inl ⟨by rfl, ?_⟩) hHeld ?_
              rotate_left
              · intro w hSw; (try dsimp only at hSw); go_simp; first | done | with_reducible rfl
              try simp only [Act.put, List.setIfInBounds_toArray, List.set_cons_zero, List.set_cons_succ]
              refine wpAnyH_take (i := 1) (oi := { dst := some 126, op := Op.unOp UnOp.not 4 (Operand.tmp 125), type := 4, pos := "law.go:137", after := #[{ on := 0, ground := Ground.data }], guard := none }) (v := ?_) rfl (by kernel_rfl) (by kernel_rfl) (by kernel_rfl) (fun _ _ _ h => h) (Or.inl ⟨by rfl, ?_⟩) hHeld ?_
              rotate_left
              · intro w hSw; (try dsimp only at hSw); go_simp; first | done | with_reducible rfl
              try simp only [Act.put, List.setIfInBounds_toArray, List.set_cons_zero, List.set_cons_succ]
              refine wpAnyH_take (i := 2) (oi := { dst := some 127, op := Op.move (Operand.tmp 126), type := 4, pos := "law.go:137", after := #[{ on := 1, ground := Ground.data }], guard := none }) (v := ?_) rfl (by kernel_rfl) (by kernel_rfl) (by kernel_rfl) (fun _ _ _ h => h) (Or.inl ⟨by rfl, ?_⟩) hHeld ?_
              rotate_left
              · intro w hSw; (try dsimp only at hSw); go_simp; first | done | with_reducible rfl
              try simp only [Act.put, List.setIfInBounds_toArray, List.set_cons_zero, List.set_cons_succ]
              refine wpAnyH_take (i := 3) (oi := { dst := some 128, op := Op.move (Operand.tmp 8), type := 26, pos := "law.go:137", after := #[{ on := 2, ground := Ground.guard }], guard := some (2, false) }) (v := ?_) rfl (by kernel_rfl) (by kernel_rfl) (by kernel_rfl) (fun _ _ _ h => h) (Or.inl ⟨by rfl, ?_⟩) hHeld ?_
              rotate_left
              · intro w hSw; (try dsimp only at hSw); go_simp; first | done | with_reducible rfl
              try simp only [Act.put, List.setIfInBounds_toArray, List.set_cons_zero, List.set_cons_succ]
              refine wpAnyH_take (i := 5) (oi := { dst := some 130, op := Op.move (Operand.tmp 9), type := 28, pos := "law.go:137", after := #[{ on := 2, ground := Ground.guard }], guard := some (2, false) }) (v := ?_) rfl (by kernel_rfl) (by kernel_rfl) (by kernel_rfl) (fun _ _ _ h => h) (Or.inl ⟨by rfl, ?_⟩) hHeld ?_
              rotate_left
              · intro w hSw; (try dsimp only at hSw); go_simp; first | done | with_reducible rfl
              try simp only [Act.put, List.setIfInBounds_toArray, List.set_cons_zero, List.set_cons_succ]
              refine wpAnyH_take (i := 6) (oi := { dst := some 131, op := Op.nilCheck (Operand.tmp 130), type := 0, pos := "law.go:137", after := #[{ on := 5, ground := Ground.data }, { on := 2, ground := Ground.guard }], guard := some (2, false) }) (v := ?_) rfl (by kernel_rfl) (by kernel_rfl) (by kernel_rfl) (fun _ _ _ h => h) (Or.inl ⟨by rfl, ?_⟩) hHeld ?_
              rotate_left
              · intro w hSw; (try dsimp only at hSw); go_simp; first | done | with_reducible rfl
              try simp only [Act.put, List.setIfInBounds_toArray, List.set_cons_zero, List.set_cons_succ]
              refine wpAnyH_take (i := 7) (oi := { dst := some 132, op := Op.fieldAddr 30 (Operand.tmp 131) 0, type := 0, pos := "law.go:137", after := #[{ on := 6, ground := Ground.data }, { on := 2, ground := Ground.guard }], guard := some (2, false) }) (v := ?_) rfl (by kernel_rfl) (by kernel_rfl) (by kernel_rfl) (fun _ _ _ h => h) (Or.inl ⟨by rfl, ?_⟩) hHeld ?_
              rotate_left
              · intro w hSw; (try dsimp only at hSw); go_simp; first | done | with_reducible rfl
              try simp only [Act.put, List.setIfInBounds_toArray, List.set_cons_zero, List.set_cons_succ]
              refine wpAnyH_take (i := 8) (oi := { dst := some 133, op := Op.load 22 (Operand.tmp 132), type := 22, pos := "law.go:137", after := #[{ on := 7, ground := Ground.data }, { on := 2, ground := Ground.guard }], guard := some (2, false) }) (v := ?_) rfl (by kernel_rfl) (by kernel_rfl) (by kernel_rfl) (fun _ _ _ h => h) (Or.inl ⟨by rfl, ?_⟩) hHeld ?_
              rotate_left
              · intro w hSw; (try dsimp only at hSw); have c8 := hSw.1; go_simp; first | done | with_reducible rfl
              try simp only [Act.put, List.setIfInBounds_toArray, List.set_cons_zero, List.set_cons_succ]
              refine wpAnyH_take (i := 9) (oi := { dst := some 134, op := Op.call { callee := Callee.builtin Builtin.len, args := #[Operand.tmp 133], argTypes := #[22] }, type := 3, pos := "law.go:137", after := #[{ on := 8, ground := Ground.data }, { on := 2, ground := Ground.guard }], guard := some (2, false) }) (v := ?_) rfl (by kernel_rfl) (by kernel_rfl) (by kernel_rfl) (fun _ _ _ h => h) (Or.inl ⟨by rfl, ?_⟩) hHeld ?_
              rotate_left
              · intro w hSw; (try dsimp only at hSw); go_simp; first | done | with_reducible rfl
              try simp only [Act.put, List.setIfInBounds_toArray, List.set_cons_zero, List.set_cons_succ]
              refine wpAnyH_ready (rs := [4]) (by kernel_rfl) (by simp) ?_
              refine AllReadyH.cons (o := { dst := some 129, op := Op.call { callee := Callee.value (Operand.func 25), args := #[Operand.tmp 128], argTypes := #[26] }, type := 3, pos := "law.go:137", after := #[{ on := 3, ground := Ground.data }, { on := 2, ground := Ground.chain }, { on := 2, ground := Ground.guard }], guard := some (2, false) }) rfl (fun K hK => ?_) AllReadyH.nil
              clear hHeld
              go_simp
              refine HLF.out.mono ?_
              rintro e z1 ⟨rfl, rfl⟩
              refine hK.out _ _ (HD.out) (fun hHeld => ?_)
              clear hK K
              try simp only [Act.put, List.setIfInBounds_toArray, List.set_cons_zero, List.set_cons_succ]
              refine wpAnyH_take (i := 10) (oi := { dst := some 135, op := Op.binOp BinOp.neq 3 (Operand.tmp 129) (Operand.tmp 134) 3, type := 4, pos := "law.go:137", after := #[{ on := 4, ground := Ground.data }, { on := 9, ground := Ground.data }, { on := 2, ground := Ground.guard }], guard := some (2, false) }) (v := ?_) rfl (by kernel_rfl) (by kernel_rfl) (by kernel_rfl) (fun _ _ _ h => h) (Or.inl ⟨by rfl, ?_⟩) hHeld ?_
              rotate_left
              · intro w hSw; (try dsimp only at hSw); go_simp; first | done | with_reducible rfl
              try simp only [Act.put, List.setIfInBounds_toArray, List.set_cons_zero, List.set_cons_succ]
              refine wpAnyH_take (i := 11) (oi := { dst := some 136, op := Op.pick (Operand.tmp 127) (Operand.const (Value.bool true)) (Operand.tmp 135), type := 4, pos := "law.go:137", after := #[{ on := 2, ground := Ground.data }, { on := 10, ground := Ground.data }], guard := none }) (v := ?_) rfl (by kernel_rfl) (by kernel_rfl) (by kernel_rfl) (fun _ _ _ h => h) (Or.inl ⟨by rfl, ?_⟩) hHeld ?_
              rotate_left
              · intro w hSw; (try dsimp only at hSw); go_simp; first | done | with_reducible rfl
              try simp only [Act.put, List.setIfInBounds_toArray, List.set_cons_zero, List.set_cons_succ]
              refine wpAnyH_take (i := 12) (oi := { dst := some 137, op := Op.move (Operand.tmp 136), type := 4, pos := "law.go:137", after := #[{ on := 11, ground := Ground.data }, { on := 4, ground := Ground.chain }], guard := none }) (v := ?_) rfl (by kernel_rfl) (by kernel_rfl) (by kernel_rfl) (fun _ _ _ h => h) (Or.inl ⟨by rfl, ?_⟩) hHeld ?_
              rotate_left
              · intro w hSw; (try dsimp only at hSw); go_simp; first | done | with_reducible rfl
              try simp only [Act.put, List.setIfInBounds_toArray, List.set_cons_zero, List.set_cons_succ]
              refine wpAnyH_take (i := 13) (oi := { dst := some 138, op := Op.move (Operand.tmp 8), type := 26, pos := "law.go:137", after := #[{ on := 12, ground := Ground.guard }], guard := some (12, false) }) (v := ?_) rfl (by kernel_rfl) (by kernel_rfl) (by kernel_rfl) (fun _ _ _ h => h) (Or.inl ⟨by rfl, ?_⟩) hHeld ?_
              rotate_left
              · intro w hSw; (try dsimp only at hSw); go_simp; first | done | with_reducible rfl
              try simp only [Act.put, List.setIfInBounds_toArray, List.set_cons_zero, List.set_cons_succ]
              refine wpAnyH_take (i := 16) (oi := { dst := some 141, op := Op.move (Operand.tmp 9), type := 28, pos := "law.go:137", after := #[{ on := 12, ground := Ground.guard }], guard := some (12, false) }) (v := ?_) rfl (by kernel_rfl) (by kernel_rfl) (by kernel_rfl) (fun _ _ _ h => h) (Or.inl ⟨by rfl, ?_⟩) hHeld ?_
              rotate_left
              · intro w hSw; (try dsimp only at hSw); go_simp; first | done | with_reducible rfl
              try simp only [Act.put, List.setIfInBounds_toArray, List.set_cons_zero, List.set_cons_succ]
              refine wpAnyH_take (i := 17) (oi := { dst := some 142, op := Op.nilCheck (Operand.tmp 141), type := 0, pos := "law.go:137", after := #[{ on := 16, ground := Ground.data }, { on := 12, ground := Ground.guard }], guard := some (12, false) }) (v := ?_) rfl (by kernel_rfl) (by kernel_rfl) (by kernel_rfl) (fun _ _ _ h => h) (Or.inl ⟨by rfl, ?_⟩) hHeld ?_
              rotate_left
              · intro w hSw; (try dsimp only at hSw); go_simp; first | done | with_reducible rfl
              try simp only [Act.put, List.setIfInBounds_toArray, List.set_cons_zero, List.set_cons_succ]
              refine wpAnyH_take (i := 18) (oi := { dst := some 143, op := Op.fieldAddr 30 (Operand.tmp 142) 1, type := 0, pos := "law.go:137", after := #[{ on := 17, ground := Ground.data }, { on := 12, ground := Ground.guard }], guard := some (12, false) }) (v := ?_) rfl (by kernel_rfl) (by kernel_rfl) (by kernel_rfl) (fun _ _ _ h => h) (Or.inl ⟨by rfl, ?_⟩) hHeld ?_
              rotate_left
              · intro w hSw; (try dsimp only at hSw); go_simp; first | done | with_reducible rfl
              try simp only [Act.put, List.setIfInBounds_toArray, List.set_cons_zero, List.set_cons_succ]
              refine wpAnyH_take (i := 19) (oi := { dst := some 144, op := Op.load 4 (Operand.tmp 143), type := 4, pos := "law.go:137", after := #[{ on := 18, ground := Ground.data }, { on := 12, ground := Ground.guard }], guard := some (12, false) }) (v := ?_) rfl (by kernel_rfl) (by kernel_rfl) (by kernel_rfl) (fun _ _ _ h => h) (Or.inl ⟨by rfl, ?_⟩) hHeld ?_
              rotate_left
              · intro w hSw; (try dsimp only at hSw); have c19 := hSw.2; go_simp; first | done | with_reducible rfl
              try simp only [Act.put, List.setIfInBounds_toArray, List.set_cons_zero, List.set_cons_succ]
              refine wpAnyH_ready (rs := [14]) (by kernel_rfl) (by simp) ?_
              refine AllReadyH.cons (o := { dst := some 139, op := Op.call { callee := Callee.value (Operand.func 26), args := #[Operand.tmp 138], argTypes := #[26] }, type := 42, pos := "law.go:137", after := #[{ on := 13, ground := Ground.data }, { on := 12, ground := Ground.chain }, { on := 12, ground := Ground.guard }], guard := some (12, false) }) rfl (fun K hK => ?_) AllReadyH.nil
              clear hHeld
              go_simp
              refine HER.out.mono ?_
              rintro e z2 ⟨rfl, rfl⟩
              refine hK.out _ _ (HD.out) (fun hHeld => ?_)
              clear hK K
              try simp only [Act.put, List.setIfInBounds_toArray, List.set_cons_zero, List.set_cons_succ]
              refine wpAnyH_take (i := 15) (oi := { dst := some 140, op := Op.binOp BinOp.neq 42 (Operand.tmp 139) (Operand.const (Value.int IntKind.i64 0)) 42, type := 4, pos := "law.go:137", after := #[{ on := 14, ground := Ground.data }, { on := 12, ground := Ground.guard }], guard := some (12, false) }) (v := ?_) rfl (by kernel_rfl) (by kernel_rfl) (by kernel_rfl) (fun _ _ _ h => h) (Or.inl ⟨by rfl, ?_⟩) hHeld ?_
              rotate_left
              · intro w hSw; (try dsimp only at hSw); go_simp; first | done | with_reducible rfl
              try simp only [Act.put, List.setIfInBounds_toArray, List.set_cons_zero, List.set_cons_succ]
              refine wpAnyH_take (i := 20) (oi := { dst := some 145, op := Op.binOp BinOp.neq 4 (Operand.tmp 140) (Operand.tmp 144) 4, type := 4, pos := "law.go:137", after := #[{ on := 15, ground := Ground.data }, { on := 19, ground := Ground.data }, { on := 12, ground := Ground.guard }], guard := some (12, false) }) (v := ?_) rfl (by kernel_rfl) (by kernel_rfl) (by kernel_rfl) (fun _ _ _ h => h) (Or.inl ⟨by rfl, ?_⟩) hHeld ?_
              rotate_left
              · intro w hSw; (try dsimp only at hSw); go_simp; first | done | with_reducible rfl
              try simp only [Act.put, List.setIfInBounds_toArray, List.set_cons_zero, List.set_cons_succ]
              refine wpAnyH_take (i := 21) (oi := { dst := some 146, op := Op.pick (Operand.tmp 137) (Operand.const (Value.bool true)) (Operand.tmp 145), type := 4, pos := "law.go:137", after := #[{ on := 12, ground := Ground.data }, { on := 20, ground := Ground.data }], guard := none }) (v := ?_) rfl (by kernel_rfl) (by kernel_rfl) (by kernel_rfl) (fun _ _ _ h => h) (Or.inl ⟨by rfl, ?_⟩) hHeld ?_
              rotate_left
              · intro w hSw; (try dsimp only at hSw); go_simp; first | done | with_reducible rfl
              try simp only [Act.put, List.setIfInBounds_toArray, List.set_cons_zero, List.set_cons_succ]
              refine wpAnyH_done (by kernel_rfl) ?_ _
              clear hHeld
              go_wp2_with fail
              go_roundw
              case rel => exact ⟨k + 1, by omega, by go_num, bs2, true, F', G2, HRd, HMd, HFGz, HBd, HXz, HLz⟩
              case measure => simp [intOf]; omega
            · cases st2 with
              | true =>
                have HRd := hide (show Rd tz.drew w.heap.size F' g bs2 true from HRz.out.keep (Keep.drew (fun _ => False) tz) (fun _ _ => id))
                have HMd := hide (show RdM tz.drew w.heap.size G2 gm bs2 true from HMz.out.keep (Keep.drew (fun _ => False) tz) (fun _ _ => id))
                have HBd := hide (show Below w.heap.size w tz.drew from HBz.out.drew)
                obtain ⟨am, cm, _, _, _, d0, d1, _, _⟩ := HMd.out.cells
                have HD := hide (And.intro d0 d1)
                clear d0 d1
                have HLF := hide (left_any tz.drew _ _ _ _ _ HRd.out)
                have HER := hide (err_any tz.drew _ _ _ _ _ HRd.out)
                rw [show errOf true = 2 from rfl] at HER
                obtain ⟨lz, hlz⟩ : ∃ lz, bs2.length = lz := ⟨_, rfl⟩
                rw [hlz] at HD HLF
                clear hlz
                go_wp2_with fail
                refine wp_region_held_drew (S := fun w' => w'.cell? ⟨gm, 0, none⟩ = some (.slice am lz cm) ∧ w'.cell? ⟨gm, 1, none⟩ = some (.bool true)) (by kernel_rfl) HD.out (fun hHeld => ?_)
                refine wpAnyH_take (i := 0) (oi := { dst := some 125, op := Op.move (Operand.tmp 13), type := 4, pos := "law.go:137", after := #[], guard := none }) (v := ?_) rfl (by kernel_rfl) (by kernel_rfl) (by kernel_rfl) (fun _ _ _ h => h) (Or.inl ⟨by rfl, ?_⟩) hHeld ?_
                rotate_left
                · intro w hSw; (try dsimp only at hSw); go_simp; first | done | with_reducible rfl
                try simp only [Act.put, List.setIfInBounds_toArray, List.set_cons_zero, List.set_cons_succ]
                refine wpAnyH_take (i := 1) (oi := { dst := some 126, op := Op.unOp UnOp.not 4 (Operand.tmp 125), type := 4, pos := "law.go:137", after := #[{ on := 0, ground := Ground.data }], guard := none }) (v := ?_) rfl (by kernel_rfl) (by kernel_rfl) (by kernel_rfl) (fun _ _ _ h => h) (Or.inl ⟨by rfl, ?_⟩) hHeld ?_
                rotate_left
                · intro w hSw; (try dsimp only at hSw); go_simp; first | done | with_reducible rfl
                try simp only [Act.put, List.setIfInBounds_toArray, List.set_cons_zero, List.set_cons_succ]
                refine wpAnyH_take (i := 2) (oi := { dst := some 127, op := Op.move (Operand.tmp 126), type := 4, pos := "law.go:137", after := #[{ on := 1, ground := Ground.data }], guard := none }) (v := ?_) rfl (by kernel_rfl) (by kernel_rfl) (by kernel_rfl) (fun _ _ _ h => h) (Or.inl ⟨by rfl, ?_⟩) hHeld ?_
                rotate_left
                · intro w hSw; (try dsimp only at hSw); go_simp; first | done | with_reducible rfl
                try simp only [Act.put, List.setIfInBounds_toArray, List.set_cons_zero, List.set_cons_succ]
                refine wpAnyH_take (i := 3) (oi := { dst := some 128, op := Op.move (Operand.tmp 8), type := 26, pos := "law.go:137", after := #[{ on := 2, ground := Ground.guard }], guard := some (2, false) }) (v := ?_) rfl (by kernel_rfl) (by kernel_rfl) (by kernel_rfl) (fun _ _ _ h => h) (Or.inl ⟨by rfl, ?_⟩) hHeld ?_
                rotate_left
                · intro w hSw; (try dsimp only at hSw); go_simp; first | done | with_reducible rfl
                try simp only [Act.put, List.setIfInBounds_toArray, List.set_cons_zero, List.set_cons_succ]
                refine wpAnyH_take (i := 5) (oi := { dst := some 130, op := Op.move (Operand.tmp 9), type := 28, pos := "law.go:137", after := #[{ on := 2, ground := Ground.guard }], guard := some (2, false) }) (v := ?_) rfl (by kernel_rfl) (by kernel_rfl) (by kernel_rfl) (fun _ _ _ h => h) (Or.inl ⟨by rfl, ?_⟩) hHeld ?_
                rotate_left
                · intro w hSw; (try dsimp only at hSw); go_simp; first | done | with_reducible rfl
                try simp only [Act.put, List.setIfInBounds_toArray, List.set_cons_zero, List.set_cons_succ]
                refine wpAnyH_take (i := 6) (oi := { dst := some 131, op := Op.nilCheck (Operand.tmp 130), type := 0, pos := "law.go:137", after := #[{ on := 5, ground := Ground.data }, { on := 2, ground := Ground.guard }], guard := some (2, false) }) (v := ?_) rfl (by kernel_rfl) (by kernel_rfl) (by kernel_rfl) (fun _ _ _ h => h) (Or.inl ⟨by rfl, ?_⟩) hHeld ?_
                rotate_left
                · intro w hSw; (try dsimp only at hSw); go_simp; first | done | with_reducible rfl
                try simp only [Act.put, List.setIfInBounds_toArray, List.set_cons_zero, List.set_cons_succ]
                refine wpAnyH_take (i := 7) (oi := { dst := some 132, op := Op.fieldAddr 30 (Operand.tmp 131) 0, type := 0, pos := "law.go:137", after := #[{ on := 6, ground := Ground.data }, { on := 2, ground := Ground.guard }], guard := some (2, false) }) (v := ?_) rfl (by kernel_rfl) (by kernel_rfl) (by kernel_rfl) (fun _ _ _ h => h) (Or.inl ⟨by rfl, ?_⟩) hHeld ?_
                rotate_left
                · intro w hSw; (try dsimp only at hSw); go_simp; first | done | with_reducible rfl
                try simp only [Act.put, List.setIfInBounds_toArray, List.set_cons_zero, List.set_cons_succ]
                refine wpAnyH_take (i := 8) (oi := { dst := some 133, op := Op.load 22 (Operand.tmp 132), type := 22, pos := "law.go:137", after := #[{ on := 7, ground := Ground.data }, { on := 2, ground := Ground.guard }], guard := some (2, false) }) (v := ?_) rfl (by kernel_rfl) (by kernel_rfl) (by kernel_rfl) (fun _ _ _ h => h) (Or.inl ⟨by rfl, ?_⟩) hHeld ?_
                rotate_left
                · intro w hSw; (try dsimp only at hSw); have c8 := hSw.1; go_simp; first | done | with_reducible rfl
                try simp only [Act.put, List.setIfInBounds_toArray, List.set_cons_zero, List.set_cons_succ]
                refine wpAnyH_take (i := 9) (oi := { dst := some 134, op := Op.call { callee := Callee.builtin Builtin.len, args := #[Operand.tmp 133], argTypes := #[22] }, type := 3, pos := "law.go:137", after := #[{ on := 8, ground := Ground.data }, { on := 2, ground := Ground.guard }], guard := some (2, false) }) (v := ?_) rfl (by kernel_rfl) (by kernel_rfl) (by kernel_rfl) (fun _ _ _ h => h) (Or.inl ⟨by rfl, ?_⟩) hHeld ?_
                rotate_left
                · intro w hSw; (try dsimp only at hSw); go_simp; first | done | with_reducible rfl
                try simp only [Act.put, List.setIfInBounds_toArray, List.set_cons_zero, List.set_cons_succ]
                refine wpAnyH_ready (rs := [4]) (by kernel_rfl) (by simp) ?_
                refine AllReadyH.cons (o := { dst := some 129, op := Op.call { callee := Callee.value (Operand.func 25), args := #[Operand.tmp 128], argTypes := #[26] }, type := 3, pos := "law.go:137", after := #[{ on := 3, ground := Ground.data }, { on := 2, ground := Ground.chain }, { on := 2, ground := Ground.guard }], guard := some (2, false) }) rfl (fun K hK => ?_) AllReadyH.nil
                clear hHeld
                go_simp
                refine HLF.out.mono ?_
                rintro e z1 ⟨rfl, rfl⟩
                refine hK.out _ _ (HD.out) (fun hHeld => ?_)
                clear hK K
                try simp only [Act.put, List.setIfInBounds_toArray, List.set_cons_zero, List.set_cons_succ]
                refine wpAnyH_take (i := 10) (oi := { dst := some 135, op := Op.binOp BinOp.neq 3 (Operand.tmp 129) (Operand.tmp 134) 3, type := 4, pos := "law.go:137", after := #[{ on := 4, ground := Ground.data }, { on := 9, ground := Ground.data }, { on := 2, ground := Ground.guard }], guard := some (2, false) }) (v := ?_) rfl (by kernel_rfl) (by kernel_rfl) (by kernel_rfl) (fun _ _ _ h => h) (Or.inl ⟨by rfl, ?_⟩) hHeld ?_
                rotate_left
                · intro w hSw; (try dsimp only at hSw); go_simp; first | done | with_reducible rfl
                try simp only [Act.put, List.setIfInBounds_toArray, List.set_cons_zero, List.set_cons_succ]
                refine wpAnyH_take (i := 11) (oi := { dst := some 136, op := Op.pick (Operand.tmp 127) (Operand.const (Value.bool true)) (Operand.tmp 135), type := 4, pos := "law.go:137", after := #[{ on := 2, ground := Ground.data }, { on := 10, ground := Ground.data }], guard := none }) (v := ?_) rfl (by kernel_rfl) (by kernel_rfl) (by kernel_rfl) (fun _ _ _ h => h) (Or.inl ⟨by rfl, ?_⟩) hHeld ?_
                rotate_left
                · intro w hSw; (try dsimp only at hSw); go_simp; first | done | with_reducible rfl
                try simp only [Act.put, List.setIfInBounds_toArray, List.set_cons_zero, List.set_cons_succ]
                refine wpAnyH_take (i := 12) (oi := { dst := some 137, op := Op.move (Operand.tmp 136), type := 4, pos := "law.go:137", after := #[{ on := 11, ground := Ground.data }, { on := 4, ground := Ground.chain }], guard := none }) (v := ?_) rfl (by kernel_rfl) (by kernel_rfl) (by kernel_rfl) (fun _ _ _ h => h) (Or.inl ⟨by rfl, ?_⟩) hHeld ?_
                rotate_left
                · intro w hSw; (try dsimp only at hSw); go_simp; first | done | with_reducible rfl
                try simp only [Act.put, List.setIfInBounds_toArray, List.set_cons_zero, List.set_cons_succ]
                refine wpAnyH_take (i := 13) (oi := { dst := some 138, op := Op.move (Operand.tmp 8), type := 26, pos := "law.go:137", after := #[{ on := 12, ground := Ground.guard }], guard := some (12, false) }) (v := ?_) rfl (by kernel_rfl) (by kernel_rfl) (by kernel_rfl) (fun _ _ _ h => h) (Or.inl ⟨by rfl, ?_⟩) hHeld ?_
                rotate_left
                · intro w hSw; (try dsimp only at hSw); go_simp; first | done | with_reducible rfl
                try simp only [Act.put, List.setIfInBounds_toArray, List.set_cons_zero, List.set_cons_succ]
                refine wpAnyH_take (i := 16) (oi := { dst := some 141, op := Op.move (Operand.tmp 9), type := 28, pos := "law.go:137", after := #[{ on := 12, ground := Ground.guard }], guard := some (12, false) }) (v := ?_) rfl (by kernel_rfl) (by kernel_rfl) (by kernel_rfl) (fun _ _ _ h => h) (Or.inl ⟨by rfl, ?_⟩) hHeld ?_
                rotate_left
                · intro w hSw; (try dsimp only at hSw); go_simp; first | done | with_reducible rfl
                try simp only [Act.put, List.setIfInBounds_toArray, List.set_cons_zero, List.set_cons_succ]
                refine wpAnyH_take (i := 17) (oi := { dst := some 142, op := Op.nilCheck (Operand.tmp 141), type := 0, pos := "law.go:137", after := #[{ on := 16, ground := Ground.data }, { on := 12, ground := Ground.guard }], guard := some (12, false) }) (v := ?_) rfl (by kernel_rfl) (by kernel_rfl) (by kernel_rfl) (fun _ _ _ h => h) (Or.inl ⟨by rfl, ?_⟩) hHeld ?_
                rotate_left
                · intro w hSw; (try dsimp only at hSw); go_simp; first | done | with_reducible rfl
                try simp only [Act.put, List.setIfInBounds_toArray, List.set_cons_zero, List.set_cons_succ]
                refine wpAnyH_take (i := 18) (oi := { dst := some 143, op := Op.fieldAddr 30 (Operand.tmp 142) 1, type := 0, pos := "law.go:137", after := #[{ on := 17, ground := Ground.data }, { on := 12, ground := Ground.guard }], guard := some (12, false) }) (v := ?_) rfl (by kernel_rfl) (by kernel_rfl) (by kernel_rfl) (fun _ _ _ h => h) (Or.inl ⟨by rfl, ?_⟩) hHeld ?_
                rotate_left
                · intro w hSw; (try dsimp only at hSw); go_simp; first | done | with_reducible rfl
                try simp only [Act.put, List.setIfInBounds_toArray, List.set_cons_zero, List.set_cons_succ]
                refine wpAnyH_take (i := 19) (oi := { dst := some 144, op := Op.load 4 (Operand.tmp 143), type := 4, pos := "law.go:137", after := #[{ on := 18, ground := Ground.data }, { on := 12, ground := Ground.guard }], guard := some (12, false) }) (v := ?_) rfl (by kernel_rfl) (by kernel_rfl) (by kernel_rfl) (fun _ _ _ h => h) (Or.inl ⟨by rfl, ?_⟩) hHeld ?_
                rotate_left
                · intro w hSw; (try dsimp only at hSw); have c19 := hSw.2; go_simp; first | done | with_reducible rfl
                try simp only [Act.put, List.setIfInBounds_toArray, List.set_cons_zero, List.set_cons_succ]
                refine wpAnyH_ready (rs := [14]) (by kernel_rfl) (by simp) ?_
                refine AllReadyH.cons (o := { dst := some 139, op := Op.call { callee := Callee.value (Operand.func 26), args := #[Operand.tmp 138], argTypes := #[26] }, type := 42, pos := "law.go:137", after := #[{ on := 13, ground := Ground.data }, { on := 12, ground := Ground.chain }, { on := 12, ground := Ground.guard }], guard := some (12, false) }) rfl (fun K hK => ?_) AllReadyH.nil
                clear hHeld
                go_simp
                refine HER.out.mono ?_
                rintro e z2 ⟨rfl, rfl⟩
                refine hK.out _ _ (HD.out) (fun hHeld => ?_)
                clear hK K
                try simp only [Act.put, List.setIfInBounds_toArray, List.set_cons_zero, List.set_cons_succ]
                refine wpAnyH_take (i := 15) (oi := { dst := some 140, op := Op.binOp BinOp.neq 42 (Operand.tmp 139) (Operand.const (Value.int IntKind.i64 0)) 42, type := 4, pos := "law.go:137", after := #[{ on := 14, ground := Ground.data }, { on := 12, ground := Ground.guard }], guard := some (12, false) }) (v := ?_) rfl (by kernel_rfl) (by kernel_rfl) (by kernel_rfl) (fun _ _ _ h => h) (Or.inl ⟨by rfl, ?_⟩) hHeld ?_
                rotate_left
                · intro w hSw; (try dsimp only at hSw); go_simp; first | done | with_reducible rfl
                try simp only [Act.put, List.setIfInBounds_toArray, List.set_cons_zero, List.set_cons_succ]
                refine wpAnyH_take (i := 20) (oi := { dst := some 145, op := Op.binOp BinOp.neq 4 (Operand.tmp 140) (Operand.tmp 144) 4, type := 4, pos := "law.go:137", after := #[{ on := 15, ground := Ground.data }, { on := 19, ground := Ground.data }, { on := 12, ground := Ground.guard }], guard := some (12, false) }) (v := ?_) rfl (by kernel_rfl) (by kernel_rfl) (by kernel_rfl) (fun _ _ _ h => h) (Or.inl ⟨by rfl, ?_⟩) hHeld ?_
                rotate_left
                · intro w hSw; (try dsimp only at hSw); go_simp; first | done | with_reducible rfl
                try simp only [Act.put, List.setIfInBounds_toArray, List.set_cons_zero, List.set_cons_succ]
                refine wpAnyH_take (i := 21) (oi := { dst := some 146, op := Op.pick (Operand.tmp 137) (Operand.const (Value.bool true)) (Operand.tmp 145), type := 4, pos := "law.go:137", after := #[{ on := 12, ground := Ground.data }, { on := 20, ground := Ground.data }], guard := none }) (v := ?_) rfl (by kernel_rfl) (by kernel_rfl) (by kernel_rfl) (fun _ _ _ h => h) (Or.inl ⟨by rfl, ?_⟩) hHeld ?_
                rotate_left
                · intro w hSw; (try dsimp only at hSw); go_simp; first | done | with_reducible rfl
                try simp only [Act.put, List.setIfInBounds_toArray, List.set_cons_zero, List.set_cons_succ]
                refine wpAnyH_done (by kernel_rfl) ?_ _
                clear hHeld
                go_wp2_with fail
                go_roundw
                case rel => exact ⟨k + 1, by omega, by go_num, bs2, true, F', G2, HRd, HMd, HFGz, HBd, HXz, HLz⟩
                case measure => simp [intOf]; omega
              | false =>
                have HRd := hide (show Rd tz.drew w.heap.size F' g bs2 false from HRz.out.keep (Keep.drew (fun _ => False) tz) (fun _ _ => id))
                have HMd := hide (show RdM tz.drew w.heap.size G2 gm bs2 false from HMz.out.keep (Keep.drew (fun _ => False) tz) (fun _ _ => id))
                have HBd := hide (show Below w.heap.size w tz.drew from HBz.out.drew)
                obtain ⟨am, cm, _, _, _, d0, d1, _, _⟩ := HMd.out.cells
                have HD := hide (And.intro d0 d1)
                clear d0 d1
                have HLF := hide (left_any tz.drew _ _ _ _ _ HRd.out)
                have HER := hide (err_any tz.drew _ _ _ _ _ HRd.out)
                rw [show errOf false = 0 from rfl] at HER
                obtain ⟨lz, hlz⟩ : ∃ lz, bs2.length = lz := ⟨_, rfl⟩
                rw [hlz] at HD HLF
                clear hlz
                go_wp2_with fail
                refine wp_region_held_drew (S := fun w' => w'.cell? ⟨gm, 0, none⟩ = some (.slice am lz cm) ∧ w'.cell? ⟨gm, 1, none⟩ = some (.bool false)) (by kernel_rfl) HD.out (fun hHeld => ?_)
                refine wpAnyH_take (i := 0) (oi := { dst := some 125, op := Op.move (Operand.tmp 13), type := 4, pos := "law.go:137", after := #[], guard := none }) (v := ?_) rfl (by kernel_rfl) (by kernel_rfl) (by kernel_rfl) (fun _ _ _ h => h) (Or.inl ⟨by rfl, ?_⟩) hHeld ?_
                rotate_left
                · intro w hSw; (try dsimp only at hSw); go_simp; first | done | with_reducible rfl
                try simp only [Act.put, List.setIfInBounds_toArray, List.set_cons_zero, List.set_cons_succ]
                refine wpAnyH_take (i := 1) (oi := { dst := some 126, op := Op.unOp UnOp.not 4 (Operand.tmp 125), type := 4, pos := "law.go:137", after := #[{ on := 0, ground := Ground.data }], guard := none }) (v := ?_) rfl (by kernel_rfl) (by kernel_rfl) (by kernel_rfl) (fun _ _ _ h => h) (Or.inl ⟨by rfl, ?_⟩) hHeld ?_
                rotate_left
                · intro w hSw; (try dsimp only at hSw); go_simp; first | done | with_reducible rfl
                try simp only [Act.put, List.setIfInBounds_toArray, List.set_cons_zero, List.set_cons_succ]
                refine wpAnyH_take (i := 2) (oi := { dst := some 127, op := Op.move (Operand.tmp 126), type := 4, pos := "law.go:137", after := #[{ on := 1, ground := Ground.data }], guard := none }) (v := ?_) rfl (by kernel_rfl) (by kernel_rfl) (by kernel_rfl) (fun _ _ _ h => h) (Or.inl ⟨by rfl, ?_⟩) hHeld ?_
                rotate_left
                · intro w hSw; (try dsimp only at hSw); go_simp; first | done | with_reducible rfl
                try simp only [Act.put, List.setIfInBounds_toArray, List.set_cons_zero, List.set_cons_succ]
                refine wpAnyH_take (i := 3) (oi := { dst := some 128, op := Op.move (Operand.tmp 8), type := 26, pos := "law.go:137", after := #[{ on := 2, ground := Ground.guard }], guard := some (2, false) }) (v := ?_) rfl (by kernel_rfl) (by kernel_rfl) (by kernel_rfl) (fun _ _ _ h => h) (Or.inl ⟨by rfl, ?_⟩) hHeld ?_
                rotate_left
                · intro w hSw; (try dsimp only at hSw); go_simp; first | done | with_reducible rfl
                try simp only [Act.put, List.setIfInBounds_toArray, List.set_cons_zero, List.set_cons_succ]
                refine wpAnyH_take (i := 5) (oi := { dst := some 130, op := Op.move (Operand.tmp 9), type := 28, pos := "law.go:137", after := #[{ on := 2, ground := Ground.guard }], guard := some (2, false) }) (v := ?_) rfl (by kernel_rfl) (by kernel_rfl) (by kernel_rfl) (fun _ _ _ h => h) (Or.inl ⟨by rfl, ?_⟩) hHeld ?_
                rotate_left
                · intro w hSw; (try dsimp only at hSw); go_simp; first | done | with_reducible rfl
                try simp only [Act.put, List.setIfInBounds_toArray, List.set_cons_zero, List.set_cons_succ]
                refine wpAnyH_take (i := 6) (oi := { dst := some 131, op := Op.nilCheck (Operand.tmp 130), type := 0, pos := "law.go:137", after := #[{ on := 5, ground := Ground.data }, { on := 2, ground := Ground.guard }], guard := some (2, false) }) (v := ?_) rfl (by kernel_rfl) (by kernel_rfl) (by kernel_rfl) (fun _ _ _ h => h) (Or.inl ⟨by rfl, ?_⟩) hHeld ?_
                rotate_left
                · intro w hSw; (try dsimp only at hSw); go_simp; first | done | with_reducible rfl
                try simp only [Act.put, List.setIfInBounds_toArray, List.set_cons_zero, List.set_cons_succ]
                refine wpAnyH_take (i := 7) (oi := { dst := some 132, op := Op.fieldAddr 30 (Operand.tmp 131) 0, type := 0, pos := "law.go:137", after := #[{ on := 6, ground := Ground.data }, { on := 2, ground := Ground.guard }], guard := some (2, false) }) (v := ?_) rfl (by kernel_rfl) (by kernel_rfl) (by kernel_rfl) (fun _ _ _ h => h) (Or.inl ⟨by rfl, ?_⟩) hHeld ?_
                rotate_left
                · intro w hSw; (try dsimp only at hSw); go_simp; first | done | with_reducible rfl
                try simp only [Act.put, List.setIfInBounds_toArray, List.set_cons_zero, List.set_cons_succ]
                refine wpAnyH_take (i := 8) (oi := { dst := some 133, op := Op.load 22 (Operand.tmp 132), type := 22, pos := "law.go:137", after := #[{ on := 7, ground := Ground.data }, { on := 2, ground := Ground.guard }], guard := some (2, false) }) (v := ?_) rfl (by kernel_rfl) (by kernel_rfl) (by kernel_rfl) (fun _ _ _ h => h) (Or.inl ⟨by rfl, ?_⟩) hHeld ?_
                rotate_left
                · intro w hSw; (try dsimp only at hSw); have c8 := hSw.1; go_simp; first | done | with_reducible rfl
                try simp only [Act.put, List.setIfInBounds_toArray, List.set_cons_zero, List.set_cons_succ]
                refine wpAnyH_take (i := 9) (oi := { dst := some 134, op := Op.call { callee := Callee.builtin Builtin.len, args := #[Operand.tmp 133], argTypes := #[22] }, type := 3, pos := "law.go:137", after := #[{ on := 8, ground := Ground.data }, { on := 2, ground := Ground.guard }], guard := some (2, false) }) (v := ?_) rfl (by kernel_rfl) (by kernel_rfl) (by kernel_rfl) (fun _ _ _ h => h) (Or.inl ⟨by rfl, ?_⟩) hHeld ?_
                rotate_left
                · intro w hSw; (try dsimp only at hSw); go_simp; first | done | with_reducible rfl
                try simp only [Act.put, List.setIfInBounds_toArray, List.set_cons_zero, List.set_cons_succ]
                refine wpAnyH_ready (rs := [4]) (by kernel_rfl) (by simp) ?_
                refine AllReadyH.cons (o := { dst := some 129, op := Op.call { callee := Callee.value (Operand.func 25), args := #[Operand.tmp 128], argTypes := #[26] }, type := 3, pos := "law.go:137", after := #[{ on := 3, ground := Ground.data }, { on := 2, ground := Ground.chain }, { on := 2, ground := Ground.guard }], guard := some (2, false) }) rfl (fun K hK => ?_) AllReadyH.nil
                clear hHeld
                go_simp
                refine HLF.out.mono ?_
                rintro e z1 ⟨rfl, rfl⟩
                refine hK.out _ _ (HD.out) (fun hHeld => ?_)
                clear hK K
                try simp only [Act.put, List.setIfInBounds_toArray, List.set_cons_zero, List.set_cons_succ]
                refine wpAnyH_take (i := 10) (oi := { dst := some 135, op := Op.binOp BinOp.neq 3 (Operand.tmp 129) (Operand.tmp 134) 3, type := 4, pos := "law.go:137", after := #[{ on := 4, ground := Ground.data }, { on := 9, ground := Ground.data }, { on := 2, ground := Ground.guard }], guard := some (2, false) }) (v := ?_) rfl (by kernel_rfl) (by kernel_rfl) (by kernel_rfl) (fun _ _ _ h => h) (Or.inl ⟨by rfl, ?_⟩) hHeld ?_
                rotate_left
                · intro w hSw; (try dsimp only at hSw); go_simp; first | done | with_reducible rfl
                try simp only [Act.put, List.setIfInBounds_toArray, List.set_cons_zero, List.set_cons_succ]
                refine wpAnyH_take (i := 11) (oi := { dst := some 136, op := Op.pick (Operand.tmp 127) (Operand.const (Value.bool true)) (Operand.tmp 135), type := 4, pos := "law.go:137", after := #[{ on := 2, ground := Ground.data }, { on := 10, ground := Ground.data }], guard := none }) (v := ?_) rfl (by kernel_rfl) (by kernel_rfl) (by kernel_rfl) (fun _ _ _ h => h) (Or.inl ⟨by rfl, ?_⟩) hHeld ?_
                rotate_left
                · intro w hSw; (try dsimp only at hSw); go_simp; first | done | with_reducible rfl
                try simp only [Act.put, List.setIfInBounds_toArray, List.set_cons_zero, List.set_cons_succ]
                refine wpAnyH_take (i := 12) (oi := { dst := some 137, op := Op.move (Operand.tmp 136), type := 4, pos := "law.go:137", after := #[{ on := 11, ground := Ground.data }, { on := 4, ground := Ground.chain }], guard := none }) (v := ?_) rfl (by kernel_rfl) (by kernel_rfl) (by kernel_rfl) (fun _ _ _ h => h) (Or.inl ⟨by rfl, ?_⟩) hHeld ?_
                rotate_left
                · intro w hSw; (try dsimp only at hSw); go_simp; first | done | with_reducible rfl
                try simp only [Act.put, List.setIfInBounds_toArray, List.set_cons_zero, List.set_cons_succ]
                refine wpAnyH_take (i := 13) (oi := { dst := some 138, op := Op.move (Operand.tmp 8), type := 26, pos := "law.go:137", after := #[{ on := 12, ground := Ground.guard }], guard := some (12, false) }) (v := ?_) rfl (by kernel_rfl) (by kernel_rfl) (by kernel_rfl) (fun _ _ _ h => h) (Or.inl ⟨by rfl, ?_⟩) hHeld ?_
                rotate_left
                · intro w hSw; (try dsimp only at hSw); go_simp; first | done | with_reducible rfl
                try simp only [Act.put, List.setIfInBounds_toArray, List.set_cons_zero, List.set_cons_succ]
                refine wpAnyH_take (i := 16) (oi := { dst := some 141, op := Op.move (Operand.tmp 9), type := 28, pos := "law.go:137", after := #[{ on := 12, ground := Ground.guard }], guard := some (12, false) }) (v := ?_) rfl (by kernel_rfl) (by kernel_rfl) (by kernel_rfl) (fun _ _ _ h => h) (Or.inl ⟨by rfl, ?_⟩) hHeld ?_
                rotate_left
                · intro w hSw; (try dsimp only at hSw); go_simp; first | done | with_reducible rfl
                try simp only [Act.put, List.setIfInBounds_toArray, List.set_cons_zero, List.set_cons_succ]
                refine wpAnyH_take (i := 17) (oi := { dst := some 142, op := Op.nilCheck (Operand.tmp 141), type := 0, pos := "law.go:137", after := #[{ on := 16, ground := Ground.data }, { on := 12, ground := Ground.guard }], guard := some (12, false) }) (v := ?_) rfl (by kernel_rfl) (by kernel_rfl) (by kernel_rfl) (fun _ _ _ h => h) (Or.inl ⟨by rfl, ?_⟩) hHeld ?_
                rotate_left
                · intro w hSw; (try dsimp only at hSw); go_simp; first | done | with_reducible rfl
                try simp only [Act.put, List.setIfInBounds_toArray, List.set_cons_zero, List.set_cons_succ]
                refine wpAnyH_take (i := 18) (oi := { dst := some 143, op := Op.fieldAddr 30 (Operand.tmp 142) 1, type := 0, pos := "law.go:137", after := #[{ on := 17, ground := Ground.data }, { on := 12, ground := Ground.guard }], guard := some (12, false) }) (v := ?_) rfl (by kernel_rfl) (by kernel_rfl) (by kernel_rfl) (fun _ _ _ h => h) (Or.inl ⟨by rfl, ?_⟩) hHeld ?_
                rotate_left
                · intro w hSw; (try dsimp only at hSw); go_simp; first | done | with_reducible rfl
                try simp only [Act.put, List.setIfInBounds_toArray, List.set_cons_zero, List.set_cons_succ]
                refine wpAnyH_take (i := 19) (oi := { dst := some 144, op := Op.load 4 (Operand.tmp 143), type := 4, pos := "law.go:137", after := #[{ on := 18, ground := Ground.data }, { on := 12, ground := Ground.guard }], guard := some (12, false) }) (v := ?_) rfl (by kernel_rfl) (by kernel_rfl) (by kernel_rfl) (fun _ _ _ h => h) (Or.inl ⟨by rfl, ?_⟩) hHeld ?_
                rotate_left
                · intro w hSw; (try dsimp only at hSw); have c19 := hSw.2; go_simp; first | done | with_reducible rfl
                try simp only [Act.put, List.setIfInBounds_toArray, List.set_cons_zero, List.set_cons_succ]
                refine wpAnyH_ready (rs := [14]) (by kernel_rfl) (by simp) ?_
                refine AllReadyH.cons (o := { dst := some 139, op := Op.call { callee := Callee.value (Operand.func 26), args := #[Operand.tmp 138], argTypes := #[26] }, type := 42, pos := "law.go:137", after := #[{ on := 13, ground := Ground.data }, { on := 12, ground := Ground.chain }, { on := 12, ground := Ground.guard }], guard := some (12, false) }) rfl (fun K hK => ?_) AllReadyH.nil
                clear hHeld
                go_simp
                refine HER.out.mono ?_
                rintro e z2 ⟨rfl, rfl⟩
                refine hK.out _ _ (HD.out) (fun hHeld => ?_)
                clear hK K
                try simp only [Act.put, List.setIfInBounds_toArray, List.set_cons_zero, List.set_cons_succ]
                refine wpAnyH_take (i := 15) (oi := { dst := some 140, op := Op.binOp BinOp.neq 42 (Operand.tmp 139) (Operand.const (Value.int IntKind.i64 0)) 42, type := 4, pos := "law.go:137", after := #[{ on := 14, ground := Ground.data }, { on := 12, ground := Ground.guard }], guard := some (12, false) }) (v := ?_) rfl (by kernel_rfl) (by kernel_rfl) (by kernel_rfl) (fun _ _ _ h => h) (Or.inl ⟨by rfl, ?_⟩) hHeld ?_
                rotate_left
                · intro w hSw; (try dsimp only at hSw); go_simp; first | done | with_reducible rfl
                try simp only [Act.put, List.setIfInBounds_toArray, List.set_cons_zero, List.set_cons_succ]
                refine wpAnyH_take (i := 20) (oi := { dst := some 145, op := Op.binOp BinOp.neq 4 (Operand.tmp 140) (Operand.tmp 144) 4, type := 4, pos := "law.go:137", after := #[{ on := 15, ground := Ground.data }, { on := 19, ground := Ground.data }, { on := 12, ground := Ground.guard }], guard := some (12, false) }) (v := ?_) rfl (by kernel_rfl) (by kernel_rfl) (by kernel_rfl) (fun _ _ _ h => h) (Or.inl ⟨by rfl, ?_⟩) hHeld ?_
                rotate_left
                · intro w hSw; (try dsimp only at hSw); go_simp; first | done | with_reducible rfl
                try simp only [Act.put, List.setIfInBounds_toArray, List.set_cons_zero, List.set_cons_succ]
                refine wpAnyH_take (i := 21) (oi := { dst := some 146, op := Op.pick (Operand.tmp 137) (Operand.const (Value.bool true)) (Operand.tmp 145), type := 4, pos := "law.go:137", after := #[{ on := 12, ground := Ground.data }, { on := 20, ground := Ground.data }], guard := none }) (v := ?_) rfl (by kernel_rfl) (by kernel_rfl) (by kernel_rfl) (fun _ _ _ h => h) (Or.inl ⟨by rfl, ?_⟩) hHeld ?_
                rotate_left
                · intro w hSw; (try dsimp only at hSw); go_simp; first | done | with_reducible rfl
                try simp only [Act.put, List.setIfInBounds_toArray, List.set_cons_zero, List.set_cons_succ]
                refine wpAnyH_done (by kernel_rfl) ?_ _
                clear hHeld
                go_wp2_with fail
                go_roundw
                case rel => exact ⟨k + 1, by omega, by go_num, bs2, false, F', G2, HRd, HMd, HFGz, HBd, HXz, HLz⟩
                case measure => simp [intOf]; omega
          by_cases hc2 : kd = 2
          · skip
            subst hc2
            have HA := hide (ru_all t1 w.heap.size F' g bs st HR1.out HTu.out HXR.out)
            go_wp2_with fail
            refine HA.out.mono ?_
            rintro e t2 ⟨v, rfl, rfl, hK, hR2⟩
            have HR2 := hide hR2
            have HM2 := hide (HM1.out.keep hK (fun j a b => HFG.out j b a))
            have HB2 := hide (hK.through HB1.out (fun j h => (HR1.out.ge j h).1) HB1.out.size)
            have HMM := hide (mu_all t2 w.heap.size G' gm bs st HM2.out HXR.out (by have := HBL.out; omega))
            have hw8 := True.intro
            obtain ⟨jd, hjd⟩ := stp_drop st ((cutUS bs).map (·.2)) bs (cutU_drop bs HXR.out)
            obtain ⟨bs2, hbs2⟩ : ∃ bs2, (stp st ((cutUS bs).map (·.2)) bs).1 = bs2 := ⟨_, rfl⟩
            obtain ⟨st2, hst2⟩ : ∃ st2, (stp st ((cutUS bs).map (·.2)) bs).2 = st2 := ⟨_, rfl⟩
            rw [hbs2] at hjd HR2
            rw [hst2] at HR2
            unfold AllM at HMM
            rw [hbs2, hst2] at HMM
            have HXz : Hid (∀ x ∈ bs2, 0 ≤ x ∧ x < 256) := hide (fun x hx => HXR.out x (by rw [hjd] at hx; exact List.mem_of_mem_drop hx))
            have HLz : Tuck (bs2.length ≤ 20000) := tuck (by rw [hjd, List.length_drop]; have := HBL.out; omega)
            clear hbs2 hst2 hjd hK hR2 HA HM1 HB1 HR1
            generalize vU st bs = vv at hw8 HMM ⊢
            go_wp2_with fail
            refine HMM.out.mono ?_
            rintro e tz ⟨v, rfl, rfl, hKM, hM3⟩
            have HRz := hide (HR2.out.keep hKM (fun j a b => HFG.out j a b))
            have HBz := hide (hKM.through HB2.out (fun j h => (HM2.out.ge j h).1) HB2.out.size)
            have HFGz : Hid (∀ k, F' k → ¬ Up G' t2 tz k) := hide (fun k a b => by
              rcases b with b | b
              · exact HFG.out k a b
              · have := (HR2.out.ge k a).2; omega)
            have HMz := hide hM3
            obtain ⟨G2, hG2⟩ : ∃ G2, Up G' t2 tz = G2 := ⟨_, rfl⟩
            rw [hG2] at HFGz HMz
            clear hG2 hKM hM3 HMM HM2 HB2 HR2 HFG hw8
            go_upto_region 30 with (fail)
            try simp only [beq_self_eq_true]
            by_cases hfl : (k : Int) = fl
            · have HFA := hide (fail_any tz _ F' g bs2 st2 HRz.out)
              go_wp2_with fail
              refine HFA.out.mono ?_
              rintro e ty ⟨rfl, hK, hR⟩
              have HMy := hide (HMz.out.keep hK (fun j a b => HFGz.out j b a))
              have HBy := hide (hK.through HBz.out (fun j h => (HRz.out.ge j h).1) HBz.out.size)
              have HSS := hide (HMy.out.stop true)
              have HRy := hide (hR.keep HSS.out.2 (fun j a b => HFGz.out j a b))
              have HBs := hide (HSS.out.2.through HBy.out (fun j h => (HMy.out.ge j h).1) HBy.out.size)
              have HMs := hide HSS.out.1
              obtain ⟨am0, cm0, _, _, _, _, _, _, f1⟩ := HMy.out.cells
              clear hK hR HSS HFA HRz HMz HBz
              go_upto_region 33 with (fail)
              clear f1 HMy HBy
              generalize ty.setCell ⟨gm, 1, none⟩ (.bool true) = tz at HRy HBs HMs ⊢
              have HRz := HRy
              have HMz := HMs
              have HBz := HBs
              clear HRy HMs HBs
              have HRd := hide (show Rd tz.drew w.heap.size F' g bs2 true from HRz.out.keep (Keep.drew (fun _ => False) tz) (fun _ _ => id))
              have HMd := hide (show RdM tz.drew w.heap.size G2 gm bs2 true from HMz.out.keep (Keep.drew (fun _ => False) tz) (fun _ _ => id))
              have HBd := hide (show Below w.heap.size w tz.drew from HBz.out.drew)
              obtain ⟨am, cm, _, _, _, d0, d1, _, _⟩ := HMd.out.cells
              have HD := hide (And.intro d0 d1)
              clear d0 d1
              have HLF := hide (left_any tz.drew _ _ _ _ _ HRd.out)
              have HER := hide (err_any tz.drew _ _ _ _ _ HRd.out)
              rw [show errOf true = 2 from rfl] at HER
              obtain ⟨lz, hlz⟩ : ∃ lz, bs2.length = lz := ⟨_, rfl⟩
              rw [hlz] at HD HLF
              clear hlz
              go_wp2_with fail
              refine wp_region_held_drew (S := fun w' => w'.cell? ⟨gm, 0, none⟩ = some (.slice am lz cm) ∧ w'.cell? ⟨gm, 1, none⟩ = some (.bool true)) (by kernel_rfl) HD.out (fun hHeld => ?_)
              refine wpAnyH_take (i := 0) (oi := { dst := some 125, op := Op.move (Operand.tmp 13), type := 4, pos := "law.go:137", after := #[], guard := none }) (v := ?_) rfl (by kernel_rfl) (by kernel_rfl) (by kernel_rfl) (fun _ _ _ h => h) (Or.inl ⟨by rfl, ?_⟩) hHeld ?_
              rotate_left
              · intro w hSw; (try dsimp only at hSw); go_simp; first | done | with_reducible rfl
              try simp only [Act.put, List.setIfInBounds_toArray, List.set_cons_zero, List.set_cons_succ]
              refine wpAnyH_take (i := 1) (oi := { dst := some 126, op := Op.unOp UnOp.not 4 (Operand.tmp 125), type := 4, pos := "law.go:137", after := #[{ on := 0, ground := Ground.data }], guard := none }) (v := ?_) rfl (by kernel_rfl) (by kernel_rfl) (by kernel_rfl) (fun _ _ _ h => h) (Or.inl ⟨by rfl, ?_⟩) hHeld ?_
              rotate_left
              · intro w hSw; (try dsimp only at hSw); go_simp; first | done | with_reducible rfl
              try simp only [Act.put, List.setIfInBounds_toArray, List.set_cons_zero, List.set_cons_succ]
              refine wpAnyH_take (i := 2) (oi := { dst := some 127, op := Op.move (Operand.tmp 126), type := 4, pos := "law.go:137", after := #[{ on := 1, ground := Ground.data }], guard := none }) (v := ?_) rfl (by kernel_rfl) (by kernel_rfl) (by kernel_rfl) (fun _ _ _ h => h) (Or.inl ⟨by rfl, ?_⟩) hHeld ?_
              rotate_left
              · intro w hSw; (try dsimp only at hSw); go_simp; first | done | with_reducible rfl
              try simp only [Act.put, List.setIfInBounds_toArray, List.set_cons_zero, List.set_cons_succ]
              refine wpAnyH_take (i := 3) (oi := { dst := some 128, op := Op.move (Operand.tmp 8), type := 26, pos := "law.go:137", after := #[{ on := 2, ground := Ground.guard }], guard := some (2, false) }) (v := ?_) rfl (by kernel_rfl) (by kernel_rfl) (by kernel_rfl) (fun _ _ _ h => h) (Or.inl ⟨by rfl, ?_⟩) hHeld ?_
              rotate_left
              · intro w hSw; (try dsimp only at hSw); go_simp; first | done | with_reducible rfl
              try simp only [Act.put, List.setIfInBounds_toArray, List.set_cons_zero, List.set_cons_succ]
              refine wpAnyH_take (i := 5) (oi := { dst := some 130, op := Op.move (Operand.tmp 9), type := 28, pos := "law.go:137", after := #[{ on := 2, ground := Ground.guard }], guard := some (2, false) }) (v := ?_) rfl (by kernel_rfl) (by kernel_rfl) (by kernel_rfl) (fun _ _ _ h => h) (Or.inl ⟨by rfl, ?_⟩) hHeld ?_
              rotate_left
              · intro w hSw; (try dsimp only at hSw); go_simp; first | done | with_reducible rfl
              try simp only [Act.put, List.setIfInBounds_toArray, List.set_cons_zero, List.set_cons_succ]
              refine wpAnyH_take (i := 6) (oi := { dst := some 131, op := Op.nilCheck (Operand.tmp 130), type := 0, pos := "law.go:137", after := #[{ on := 5, ground := Ground.data }, { on := 2, ground := Ground.guard }], guard := some (2, false) }) (v := ?_) rfl (by kernel_rfl) (by kernel_rfl) (by kernel_rfl) (fun _ _ _ h => h) (Or.inl ⟨by rfl, ?_⟩) hHeld ?_
              rotate_left
              · intro w hSw; (try dsimp only at hSw); go_simp; first | done | with_reducible rfl
              try simp only [Act.put, List.setIfInBounds_toArray, List.set_cons_zero, List.set_cons_succ]
              refine wpAnyH_take (i := 7) (oi := { dst := some 132, op := Op.fieldAddr 30 (Operand.tmp 131) 0, type := 0, pos := "law.go:137", after := #[{ on := 6, ground := Ground.data }, { on := 2, ground := Ground.guard }], guard := some (2, false) }) (v := ?_) rfl (by kernel_rfl) (by kernel_rfl) (by kernel_rfl) (fun _ _ _ h => h) (Or.inl ⟨by rfl, ?_⟩) hHeld ?_
              rotate_left
              · intro w hSw; (try dsimp only at hSw); go_simp; first | done | with_reducible rfl
              try simp only [Act.put, List.setIfInBounds_toArray, List.set_cons_zero, List.set_cons_succ]
              refine wpAnyH_take (i := 8) (oi := { dst := some 133, op := Op.load 22 (Operand.tmp 132), type := 22, pos := "law.go:137", after := #[{ on := 7, ground := Ground.data }, { on := 2, ground := Ground.guard }], guard := some (2, false) }) (v := ?_) rfl (by kernel_rfl) (by kernel_rfl) (by kernel_rfl) (fun _ _ _ h => h) (Or.inl ⟨by rfl, ?_⟩) hHeld ?_
              rotate_left
              · intro w hSw; (try dsimp only at hSw); have c8 := hSw.1; go_simp; first | done | with_reducible rfl
              try simp only [Act.put, List.setIfInBounds_toArray, List.set_cons_zero, List.set_cons_succ]
              refine wpAnyH_take (i := 9) (oi := { dst := some 134, op := Op.call { callee := Callee.builtin Builtin.len, args := #[Operand.tmp 133], argTypes := #[22] }, type := 3, pos := "law.go:137", after := #[{ on := 8, ground := Ground.data }, { on := 2, ground := Ground.guard }], guard := some (2, false) }) (v := ?_) rfl (by kernel_rfl) (by kernel_rfl) (by kernel_rfl) (fun _ _ _ h => h) (Or.inl ⟨by rfl, ?_⟩) hHeld ?_
              rotate_left
              · intro w hSw; (try dsimp only at hSw); go_simp; first | done | with_reducible rfl
              try simp only [Act.put, List.setIfInBounds_toArray, List.set_cons_zero, List.set_cons_succ]
              refine wpAnyH_ready (rs := [4]) (by kernel_rfl) (by simp) ?_
              refine AllReadyH.cons (o := { dst := some 129, op := Op.call { callee := Callee.value (Operand.func 25), args := #[Operand.tmp 128], argTypes := #[26] }, type := 3, pos := "law.go:137", after := #[{ on := 3, ground := Ground.data }, { on := 2, ground := Ground.chain }, { on := 2, ground := Ground.guard }], guard := some (2, false) }) rfl (fun K hK => ?_) AllReadyH.nil
              clear hHeld
              go_simp
              refine HLF.out.mono ?_
              rintro e z1 ⟨rfl, rfl⟩
              refine hK.out _ _ (HD.out) (fun hHeld => ?_)
              clear hK K
              try simp only [Act.put, List.setIfInBounds_toArray, List.set_cons_zero, List.set_cons_succ]
              refine wpAnyH_take (i := 10) (oi := { dst := some 135, op := Op.binOp BinOp.neq 3 (Operand.tmp 129) (Operand.tmp 134) 3, type := 4, pos := "law.go:137", after := #[{ on := 4, ground := Ground.data }, { on := 9, ground := Ground.data }, { on := 2, ground := Ground.guard }], guard := some (2, false) }) (v := ?_) rfl (by kernel_rfl) (by kernel_rfl) (by kernel_rfl) (fun _ _ _ h => h) (Or.inl ⟨by rfl, ?_⟩) hHeld ?_
              rotate_left
              · intro w hSw; (try dsimp only at hSw); go_simp; first | done | with_reducible rfl
              try simp only [Act.put, List.setIfInBounds_toArray, List.set_cons_zero, List.set_cons_succ]
              refine wpAnyH_take (i := 11) (oi := { dst := some 136, op := Op.pick (Operand.tmp 127) (Operand.const (Value.bool true)) (Operand.tmp 135), type := 4, pos := "law.go:137", after := #[{ on := 2, ground := Ground.data }, { on := 10, ground := Ground.data }], guard := none }) (v := ?_) rfl (by kernel_rfl) (by kernel_rfl) (by kernel_rfl) (fun _ _ _ h => h) (Or.inl ⟨by rfl, ?_⟩) hHeld ?_
              rotate_left
              · intro w hSw; (try dsimp only at hSw); go_simp; first | done | with_reducible rfl
              try simp only [Act.put, List.setIfInBounds_toArray, List.set_cons_zero, List.set_cons_succ]
              refine wpAnyH_take (i := 12) (oi := { dst := some 137, op := Op.move (Operand.tmp 136), type := 4, pos := "law.go:137", after := #[{ on := 11, ground := Ground.data }, { on := 4, ground := Ground.chain }], guard := none }) (v := ?_) rfl (by kernel_rfl) (by kernel_rfl) (by kernel_rfl) (fun _ _ _ h => h) (Or.inl ⟨by rfl, ?_⟩) hHeld ?_
              rotate_left
              · intro w hSw; (try dsimp only at hSw); go_simp; first | done | with_reducible rfl
              try simp only [Act.put, List.setIfInBounds_toArray, List.set_cons_zero, List.set_cons_succ]
              refine wpAnyH_take (i := 13) (oi := { dst := some 138, op := Op.move (Operand.tmp 8), type := 26, pos := "law.go:137", after := #[{ on := 12, ground := Ground.guard }], guard := some (12, false) }) (v := ?_) rfl (by kernel_rfl) (by kernel_rfl) (by kernel_rfl) (fun _ _ _ h => h) (Or.inl ⟨by rfl, ?_⟩) hHeld ?_
              rotate_left
              · intro w hSw; (try dsimp only at hSw); go_simp; first | done | with_reducible rfl
              try simp only [Act.put, List.setIfInBounds_toArray, List.set_cons_zero, List.set_cons_succ]
              refine wpAnyH_take (i := 16) (oi := { dst := some 141, op := Op.move (Operand.tmp 9), type := 28, pos := "law.go:137", after := #[{ on := 12, ground := Ground.guard }], guard := some (12, false) }) (v := ?_) rfl (by kernel_rfl) (by kernel_rfl) (by kernel_rfl) (fun _ _ _ h => h) (Or.inl ⟨by rfl, ?_⟩) hHeld ?_
              rotate_left
              · intro w hSw; (try dsimp only at hSw); go_simp; first | done | with_reducible rfl
              try simp only [Act.put, List.setIfInBounds_toArray, List.set_cons_zero, List.set_cons_succ]
              refine wpAnyH_take (i := 17) (oi := { dst := some 142, op := Op.nilCheck (Operand.tmp 141), type := 0, pos := "law.go:137", after := #[{ on := 16, ground := Ground.data }, { on := 12, ground := Ground.guard }], guard := some (12, false) }) (v := ?_) rfl (by kernel_rfl) (by kernel_rfl) (by kernel_rfl) (fun _ _ _ h => h) (Or.inl ⟨by rfl, ?_⟩) hHeld ?_
              rotate_left
              · intro w hSw; (try dsimp only at hSw); go_simp; first | done | with_reducible rfl
              try simp only [Act.put, List.setIfInBounds_toArray, List.set_cons_zero, List.set_cons_succ]
              refine wpAnyH_take (i := 18) (oi := { dst := some 143, op := Op.fieldAddr 30 (Operand.tmp 142) 1, type := 0, pos := "law.go:137", after := #[{ on := 17, ground := Ground.data }, { on := 12, ground := Ground.guard }], guard := some (12, false) }) (v := ?_) rfl (by kernel_rfl) (by kernel_rfl) (by kernel_rfl) (fun _ _ _ h => h) (Or.inl ⟨by rfl, ?_⟩) hHeld ?_
              rotate_left
              · intro w hSw; (try dsimp only at hSw); go_simp; first | done | with_reducible rfl
              try simp only [Act.put, List.setIfInBounds_toArray, List.set_cons_zero, List.set_cons_succ]
              refine wpAnyH_take (i := 19) (oi := { dst := some 144, op := Op.load 4 (Operand.tmp 143), type := 4, pos := "law.go:137", after := #[{ on := 18, ground := Ground.data }, { on := 12, ground := Ground.guard }], guard := some (12, false) }) (v := ?_) rfl (by kernel_rfl) (by kernel_rfl) (by kernel_rfl) (fun _ _ _ h => h) (Or.inl ⟨by rfl, ?_⟩) hHeld ?_
              rotate_left
              · intro w hSw; (try dsimp only at hSw); have c19 := hSw.2; go_simp; first | done | with_reducible rfl
              try simp only [Act.put, List.setIfInBounds_toArray, List.set_cons_zero, List.set_cons_succ]
              refine wpAnyH_ready (rs := [14]) (by kernel_rfl) (by simp) ?_
              refine AllReadyH.cons (o := { dst := some 139, op := Op.call { callee := Callee.value (Operand.func 26), args := #[Operand.tmp 138], argTypes := #[26] }, type := 42, pos := "law.go:137", after := #[{ on := 13, ground := Ground.data }, { on := 12, ground := Ground.chain }, { on := 12, ground := Ground.guard }], guard := some (12, false) }) rfl (fun K hK => ?_) AllReadyH.nil
              clear hHeld
              go_simp
              refine HER.out.mono ?_
              rintro e z2 ⟨rfl, rfl⟩
              refine hK.out _ _ (HD.out) (fun hHeld => ?_)
              clear hK K
              try simp only [Act.put, List.setIfInBounds_toArray, List.set_cons_zero, List.set_cons_succ]
              refine wpAnyH_take (i := 15) (oi := { dst := some 140, op := Op.binOp BinOp.neq 42 (Operand.tmp 139) (Operand.const (Value.int IntKind.i64 0)) 42, type := 4, pos := "law.go:137", after := #[{ on := 14, ground := Ground.data }, { on := 12, ground := Ground.guard }], guard := some (12, false) }) (v := ?_) rfl (by kernel_rfl) (by kernel_rfl) (by kernel_rfl) (fun _ _ _ h => h) (Or.inl ⟨by rfl, ?_⟩) hHeld ?_
              rotate_left
              · intro w hSw; (try dsimp only at hSw); go_simp; first | done | with_reducible rfl
              try simp only [Act.put, List.setIfInBounds_toArray, List.set_cons_zero, List.set_cons_succ]
              refine wpAnyH_take (i := 20) (oi := { dst := some 145, op := Op.binOp BinOp.neq 4 (Operand.tmp 140) (Operand.tmp 144) 4, type := 4, pos := "law.go:137", after := #[{ on := 15, ground := Ground.data }, { on := 19, ground := Ground.data }, { on := 12, ground := Ground.guard }], guard := some (12, false) }) (v := ?_) rfl (by kernel_rfl) (by kernel_rfl) (by kernel_rfl) (fun _ _ _ h => h) (Or.inl ⟨by rfl, ?_⟩) hHeld ?_
              rotate_left
              · intro w hSw; (try dsimp only at hSw); go_simp; first | done | with_reducible rfl
              try simp only [Act.put, List.setIfInBounds_toArray, List.set_cons_zero, List.set_cons_succ]
              refine wpAnyH_take (i := 21) (oi := { dst := some 146, op := Op.pick (Operand.tmp 137) (Operand.const (Value.bool true)) (Operand.tmp 145), type := 4, pos := "law.go:137", after := #[{ on := 12, ground := Ground.data }, { on := 20, ground := Ground.data }], guard := none }) (v := ?_) rfl (by kernel_rfl) (by kernel_rfl) (by kernel_rfl) (fun _ _ _ h => h) (Or.inl ⟨by rfl, ?_⟩) hHeld ?_
              rotate_left
              · intro w hSw; (try dsimp only at hSw); go_simp; first | done | with_reducible rfl
              try simp only [Act.put, List.setIfInBounds_toArray, List.set_cons_zero, List.set_cons_succ]
              refine wpAnyH_done (by kernel_rfl) ?_ _
              clear hHeld
              go_wp2_with fail
              go_roundw
              case rel => exact ⟨k + 1, by omega, by go_num, bs2, true, F', G2, HRd, HMd, HFGz, HBd, HXz, HLz⟩
              case measure => simp [intOf]; omega
            · cases st2 with
              | true =>
                have HRd := hide (show Rd tz.drew w.heap.size F' g bs2 true from HRz.out.keep (Keep.drew (fun _ => False) tz) (fun _ _ => id))
                have HMd := hide (show RdM tz.drew w.heap.size G2 gm bs2 true from HMz.out.keep (Keep.drew (fun _ => False) tz) (fun _ _ => id))
                have HBd := hide (show Below w.heap.size w tz.drew from HBz.out.drew)
                obtain ⟨am, cm, _, _, _, d0, d1, _, _⟩ := HMd.out.cells
                have HD := hide (And.intro d0 d1)
                clear d0 d1
                have HLF := hide (left_any tz.drew _ _ _ _ _ HRd.out)
                have HER := hide (err_any tz.drew _ _ _ _ _ HRd.out)
                rw [show errOf true = 2 from rfl] at HER
                obtain ⟨lz, hlz⟩ : ∃ lz, bs2.length = lz := ⟨_, rfl⟩
                rw [hlz] at HD HLF
                clear hlz
                go_wp2_with fail
                refine wp_region_held_drew (S := fun w' => w'.cell? ⟨gm, 0, none⟩ = some (.slice am lz cm) ∧ w'.cell? ⟨gm, 1, none⟩ = some (.bool true)) (by kernel_rfl) HD.out (fun hHeld => ?_)
                refine wpAnyH_take (i := 0) (oi := { dst := some 125, op := Op.move (Operand.tmp 13), type := 4, pos := "law.go:137", after := #[], guard := none }) (v := ?_) rfl (by kernel_rfl) (by kernel_rfl) (by kernel_rfl) (fun _ _ _ h => h) (Or.inl ⟨by rfl, ?_⟩) hHeld ?_
                rotate_left
                · intro w hSw; (try dsimp only at hSw); go_simp; first | done | with_reducible rfl
                try simp only [Act.put, List.setIfInBounds_toArray, List.set_cons_zero, List.set_cons_succ]
                refine wpAnyH_take (i := 1) (oi := { dst := some 126, op := Op.unOp UnOp.not 4 (Operand.tmp 125), type := 4, pos := "law.go:137", after := #[{ on := 0, ground := Ground.data }], guard := none }) (v := ?_) rfl (by kernel_rfl) (by kernel_rfl) (by kernel_rfl) (fun _ _ _ h => h) (Or.inl ⟨by rfl, ?_⟩) hHeld ?_
                rotate_left
                · intro w hSw; (try dsimp only at hSw); go_simp; first | done | with_reducible rfl
                try simp only [Act.put, List.setIfInBounds_toArray, List.set_cons_zero, List.set_cons_succ]
                refine wpAnyH_take (i := 2) (oi := { dst := some 127, op := Op.move (Operand.tmp 126), type := 4, pos := "law.go:137", after := #[{ on := 1, ground := Ground.data }], guard := none }) (v := ?_) rfl (by kernel_rfl) (by kernel_rfl) (by kernel_rfl) (fun _ _ _ h => h) (Or.inl ⟨by rfl, ?_⟩) hHeld ?_
                rotate_left
                · intro w hSw; (try dsimp only at hSw); go_simp; first | done | with_reducible rfl
                try simp only [Act.put, List.setIfInBounds_toArray, List.set_cons_zero, List.set_cons_succ]
                refine wpAnyH_take (i := 3) (oi := { dst := some 128, op := Op.move (Operand.tmp 8), type := 26, pos := "law.go:137", after := #[{ on := 2, ground := Ground.guard }], guard := some (2, false) }) (v := ?_) rfl (by kernel_rfl) (by kernel_rfl) (by kernel_rfl) (fun _ _ _ h => h) (Or.inl ⟨by rfl, ?_⟩) hHeld ?_
                rotate_left
                · intro w hSw; (try dsimp only at hSw); go_simp; first | done | with_reducible rfl
                try simp only [Act.put, List.setIfInBounds_toArray, List.set_cons_zero, List.set_cons_succ]
                refine wpAnyH_take (i := 5) (oi := { dst := some 130, op := Op.move (Operand.tmp 9), type := 28, pos := "law.go:137", after := #[{ on := 2, ground := Ground.guard }], guard := some (2, false) }) (v := ?_) rfl (by kernel_rfl) (by kernel_rfl) (by kernel_rfl) (fun _ _ _ h => h) (Or.inl ⟨by rfl, ?_⟩) hHeld ?_
                rotate_left
                · intro w hSw; (try dsimp only at hSw); go_simp; first | done | with_reducible rfl
                try simp only [Act.put, List.setIfInBounds_toArray, List.set_cons_zero, List.set_cons_succ]
                refine wpAnyH_take (i := 6) (oi := { dst := some 131, op := Op.nilCheck (Operand.tmp 130), type := 0, pos := "law.go:137", after := #[{ on := 5, ground := Ground.data }, { on := 2, ground := Ground.guard }], guard := some (2, false) }) (v := ?_) rfl (by kernel_rfl) (by kernel_rfl) (by kernel_rfl) (fun _ _ _ h => h) (Or.inl ⟨by rfl, ?_⟩) hHeld ?_
                rotate_left
                · intro w hSw; (try dsimp only at hSw); go_simp; first | done | with_reducible rfl
                try simp only [Act.put, List.setIfInBounds_toArray, List.set_cons_zero, List.set_cons_succ]
                refine wpAnyH_take (i := 7) (oi := { dst := some 132, op := Op.fieldAddr 30 (Operand.tmp 131) 0, type := 0, pos := "law.go:137", after := #[{ on := 6, ground := Ground.data }, { on := 2, ground := Ground.guard }], guard := some (2, false) }) (v := ?_) rfl (by kernel_rfl) (by kernel_rfl) (by kernel_rfl) (fun _ _ _ h => h) (Or.inl ⟨by rfl, ?_⟩) hHeld ?_
                rotate_left
                · intro w hSw; (try dsimp only at hSw); go_simp; first | done | with_reducible rfl
                try simp only [Act.put, List.setIfInBounds_toArray, List.set_cons_zero, List.set_cons_succ]
                refine wpAnyH_take (i := 8) (oi := { dst := some 133, op := Op.load 22 (Operand.tmp 132), type := 22, pos := "law.go:137", after := #[{ on := 7, ground := Ground.data }, { on := 2, ground := Ground.guard }], guard := some (2, false) }) (v := ?_) rfl (by kernel_rfl) (by kernel_rfl) (by kernel_rfl) (fun _ _ _ h => h) (Or.inl ⟨by rfl, ?_⟩) hHeld ?_
                rotate_left
                · intro w hSw; (try dsimp only at hSw); have c8 := hSw.1; go_simp; first | done | with_reducible rfl
                try simp only [Act.put, List.setIfInBounds_toArray, List.set_cons_zero, List.set_cons_succ]
                refine wpAnyH_take (i := 9) (oi := { dst := some 134, op := Op.call { callee := Callee.builtin Builtin.len, args := #[Operand.tmp 133], argTypes := #[22] }, type := 3, pos := "law.go:137", after := #[{ on := 8, ground := Ground.data }, { on := 2, ground := Ground.guard }], guard := some (2, false) }) (v := ?_) rfl (by kernel_rfl) (by kernel_rfl) (by kernel_rfl) (fun _ _ _ h => h) (Or.inl ⟨by rfl, ?_⟩) hHeld ?_
                rotate_left
                · intro w hSw; (try dsimp only at hSw); go_simp; first | done | with_reducible rfl
                try simp only [Act.put, List.setIfInBounds_toArray, List.set_cons_zero, List.set_cons_succ]
                refine wpAnyH_ready (rs := [4]) (by kernel_rfl) (by simp) ?_
                refine AllReadyH.cons (o := { dst := some 129, op := Op.call { callee := Callee.value (Operand.func 25), args := #[Operand.tmp 128], argTypes := #[26] }, type := 3, pos := "law.go:137", after := #[{ on := 3, ground := Ground.data }, { on := 2, ground := Ground.chain }, { on := 2, ground := Ground.guard }], guard := some (2, false) }) rfl (fun K hK => ?_) AllReadyH.nil
                clear hHeld
                go_simp
                refine HLF.out.mono ?_
                rintro e z1 ⟨rfl, rfl⟩
                refine hK.out _ _ (HD.out) (fun hHeld => ?_)
                clear hK K
                try simp only [Act.put, List.setIfInBounds_toArray, List.set_cons_zero, List.set_cons_succ]
                refine wpAnyH_take (i := 10) (oi := { dst := some 135, op := Op.binOp BinOp.neq 3 (Operand.tmp 129) (Operand.tmp 134) 3, type := 4, pos := "law.go:137", after := #[{ on := 4, ground := Ground.data }, { on := 9, ground := Ground.data }, { on := 2, ground := Ground.guard }], guard := some (2, false) }) (v := ?_) rfl (by kernel_rfl) (by kernel_rfl) (by kernel_rfl) (fun _ _ _ h => h) (Or.inl ⟨by rfl, ?_⟩) hHeld ?_
                rotate_left
                · intro w hSw; (try dsimp only at hSw); go_simp; first | done | with_reducible rfl
                try simp only [Act.put, List.setIfInBounds_toArray, List.set_cons_zero, List.set_cons_succ]
                refine wpAnyH_take (i := 11) (oi := { dst := some 136, op := Op.pick (Operand.tmp 127) (Operand.const (Value.bool true)) (Operand.tmp 135), type := 4, pos := "law.go:137", after := #[{ on := 2, ground := Ground.data }, { on := 10, ground := Ground.data }], guard := none }) (v := ?_) rfl (by kernel_rfl) (by kernel_rfl) (by kernel_rfl) (fun _ _ _ h => h) (Or.inl ⟨by rfl, ?_⟩) hHeld ?_
                rotate_left
                · intro w hSw; (try dsimp only at hSw); go_simp; first | done | with_reducible rfl
                try simp only [Act.put, List.setIfInBounds_toArray, List.set_cons_zero, List.set_cons_succ]
                refine wpAnyH_take (i := 12) (oi := { dst := some 137, op := Op.move (Operand.tmp 136), type := 4, pos := "law.go:137", after := #[{ on := 11, ground := Ground.data }, { on := 4, ground := Ground.chain }], guard := none }) (v := ?_) rfl (by kernel_rfl) (by kernel_rfl) (by kernel_rfl) (fun _ _ _ h => h) (Or.inl ⟨by rfl, ?_⟩) hHeld ?_
                rotate_left
                · intro w hSw; (try dsimp only at hSw); go_simp; first | done | with_reducible rfl
                try simp only [Act.put, List.setIfInBounds_toArray, List.set_cons_zero, List.set_cons_succ]
                refine wpAnyH_take (i := 13) (oi := { dst := some 138, op := Op.move (Operand.tmp 8), type := 26, pos := "law.go:137", after := #[{ on := 12, ground := Ground.guard }], guard := some (12, false) }) (v := ?_) rfl (by kernel_rfl) (by kernel_rfl) (by kernel_rfl) (fun _ _ _ h => h) (Or.inl ⟨by rfl, ?_⟩) hHeld ?_
                rotate_left
                · intro w hSw; (try dsimp only at hSw); go_simp; first | done | with_reducible rfl
                try simp only [Act.put, List.setIfInBounds_toArray, List.set_cons_zero, List.set_cons_succ]
                refine wpAnyH_take (i := 16) (oi := { dst := some 141, op := Op.move (Operand.tmp 9), type := 28, pos := "law.go:137", after := #[{ on := 12, ground := Ground.guard }], guard := some (12, false) }) (v := ?_) rfl (by kernel_rfl) (by kernel_rfl) (by kernel_rfl) (fun _ _ _ h => h) (Or.inl ⟨by rfl, ?_⟩) hHeld ?_
                rotate_left
                · intro w hSw; (try dsimp only at hSw); go_simp; first | done | with_reducible rfl
                try simp only [Act.put, List.setIfInBounds_toArray, List.set_cons_zero, List.set_cons_succ]
                refine wpAnyH_take (i := 17) (oi := { dst := some 142, op := Op.nilCheck (Operand.tmp 141), type := 0, pos := "law.go:137", after := #[{ on := 16, ground := Ground.data }, { on := 12, ground := Ground.guard }], guard := some (12, false) }) (v := ?_) rfl (by kernel_rfl) (by kernel_rfl) (by kernel_rfl) (fun _ _ _ h => h) (Or.inl ⟨by rfl, ?_⟩) hHeld ?_
                rotate_left
                · intro w hSw; (try dsimp only at hSw); go_simp; first | done | with_reducible rfl
                try simp only [Act.put, List.setIfInBounds_toArray, List.set_cons_zero, List.set_cons_succ]
                refine wpAnyH_take (i := 18) (oi := { dst := some 143, op := Op.fieldAddr 30 (Operand.tmp 142) 1, type := 0, pos := "law.go:137", after := #[{ on := 17, ground := Ground.data }, { on := 12, ground := Ground.guard }], guard := some (12, false) }) (v := ?_) rfl (by kernel_rfl) (by kernel_rfl) (by kernel_rfl) (fun _ _ _ h => h) (Or.inl ⟨by rfl, ?_⟩) hHeld ?_
                rotate_left
                · intro w hSw; (try dsimp only at hSw); go_simp; first | done | with_reducible rfl
                try simp only [Act.put, List.setIfInBounds_toArray, List.set_cons_zero, List.set_cons_succ]
                refine wpAnyH_take (i := 19) (oi := { dst := some 144, op := Op.load 4 (Operand.tmp 143), type := 4, pos := "law.go:137", after := #[{ on := 18, ground := Ground.data }, { on := 12, ground := Ground.guard }], guard := some (12, false) }) (v := ?_) rfl (by kernel_rfl) (by kernel_rfl) (by kernel_rfl) (fun _ _ _ h => h) (Or.inl ⟨by rfl, ?_⟩) hHeld ?_
                rotate_left
                · intro w hSw; (try dsimp only at hSw); have c19 := hSw.2; go_simp; first | done | with_reducible rfl
                try simp only [Act.put, List.setIfInBounds_toArray, List.set_cons_zero, List.set_cons_succ]
                refine wpAnyH_ready (rs := [14]) (by kernel_rfl) (by simp) ?_
                refine AllReadyH.cons (o := { dst := some 139, op := Op.call { callee := Callee.value (Operand.func 26), args := #[Operand.tmp 138], argTypes := #[26] }, type := 42, pos := "law.go:137", after := #[{ on := 13, ground := Ground.data }, { on := 12, ground := Ground.chain }, { on := 12, ground := Ground.guard }], guard := some (12, false) }) rfl (fun K hK => ?_) AllReadyH.nil
                clear hHeld
                go_simp
                refine HER.out.mono ?_
                rintro e z2 ⟨rfl, rfl⟩
                refine hK.out _ _ (HD.out) (fun hHeld => ?_)
                clear hK K
                try simp only [Act.put, List.setIfInBounds_toArray, List.set_cons_zero, List.set_cons_succ]
                refine wpAnyH_take (i := 15) (oi := { dst := some 140, op := Op.binOp BinOp.neq 42 (Operand.tmp 139) (Operand.const (Value.int IntKind.i64 0)) 42, type := 4, pos := "law.go:137", after := #[{ on := 14, ground := Ground.data }, { on := 12, ground := Ground.guard }], guard := some (12, false) }) (v := ?_) rfl (by kernel_rfl) (by kernel_rfl) (by kernel_rfl) (fun _ _ _ h => h) (Or.inl ⟨by rfl, ?_⟩) hHeld ?_
                rotate_left
                · intro w hSw; (try dsimp only at hSw); go_simp; first | done | with_reducible rfl
                try simp only [Act.put, List.setIfInBounds_toArray, List.set_cons_zero, List.set_cons_succ]
                refine wpAnyH_take (i := 20) (oi := { dst := some 145, op := Op.binOp BinOp.neq 4 (Operand.tmp 140) (Operand.tmp 144) 4, type := 4, pos := "law.go:137", after := #[{ on := 15, ground := Ground.data }, { on := 19, ground := Ground.data }, { on := 12, ground := Ground.guard }], guard := some (12, false) }) (v := ?_) rfl (by kernel_rfl) (by kernel_rfl) (by kernel_rfl) (fun _ _ _ h => h) (Or.inl ⟨by rfl, ?_⟩) hHeld ?_
                rotate_left
                · intro w hSw; (try dsimp only at hSw); go_simp; first | done | with_reducible rfl
                try simp only [Act.put, List.setIfInBounds_toArray, List.set_cons_zero, List.set_cons_succ]
                refine wpAnyH_take (i := 21) (oi := { dst := some 146, op := Op.pick (Operand.tmp 137) (Operand.const (Value.bool true)) (Operand.tmp 145), type := 4, pos := "law.go:137", after := #[{ on := 12, ground := Ground.data }, { on := 20, ground := Ground.data }], guard := none }) (v := ?_) rfl (by kernel_rfl) (by kernel_rfl) (by kernel_rfl) (fun _ _ _ h => h) (Or.inl ⟨by rfl, ?_⟩) hHeld ?_
                rotate_left
                · intro w hSw; (try dsimp only at hSw); go_simp; first | done | with_reducible rfl
                try simp only [Act.put, List.setIfInBounds_toArray, List.set_cons_zero, List.set_cons_succ]
                refine wpAnyH_done (by kernel_rfl) ?_ _
                clear hHeld
                go_wp2_with fail
                go_roundw
                case rel => exact ⟨k + 1, by omega, by go_num, bs2, true, F', G2, HRd, HMd, HFGz, HBd, HXz, HLz⟩
                case measure => simp [intOf]; omega
              | false =>
                have HRd := hide (show Rd tz.drew w.heap.size F' g bs2 false from HRz.out.keep (Keep.drew (fun _ => False) tz) (fun _ _ => id))
                have HMd := hide (show RdM tz.drew w.heap.size G2 gm bs2 false from HMz.out.keep (Keep.drew (fun _ => False) tz) (fun _ _ => id))
                have HBd := hide (show Below w.heap.size w tz.drew from HBz.out.drew)
                obtain ⟨am, cm, _, _, _, d0, d1, _, _⟩ := HMd.out.cells
                have HD := hide (And.intro d0 d1)
                clear d0 d1
                have HLF := hide (left_any tz.drew _ _ _ _ _ HRd.out)
                have HER := hide (err_any tz.drew _ _ _ _ _ HRd.out)
                rw [show errOf false = 0 from rfl] at HER
                obtain ⟨lz, hlz⟩ : ∃ lz, bs2.length = lz := ⟨_, rfl⟩
                rw [hlz] at HD HLF
                clear hlz
                go_wp2_with fail
                refine wp_region_held_drew (S := fun w' => w'.cell? ⟨gm, 0, none⟩ = some (.slice am lz cm) ∧ w'.cell? ⟨gm, 1, none⟩ = some (.bool false)) (by kernel_rfl) HD.out (fun hHeld => ?_)
                refine wpAnyH_take (i := 0) (oi := { dst := some 125, op := Op.move (Operand.tmp 13), type := 4, pos := "law.go:137", after := #[], guard := none }) (v := ?_) rfl (by kernel_rfl) (by kernel_rfl) (by kernel_rfl) (fun _ _ _ h => h) (Or.inl ⟨by rfl, ?_⟩) hHeld ?_
                rotate_left
                · intro w hSw; (try dsimp only at hSw); go_simp; first | done | with_reducible rfl
                try simp only [Act.put, List.setIfInBounds_toArray, List.set_cons_zero, List.set_cons_succ]
                refine wpAnyH_take (i := 1) (oi := { dst := some 126, op := Op.unOp UnOp.not 4 (Operand.tmp 125), type := 4, pos := "law.go:137", after := #[{ on := 0, ground := Ground.data }], guard := none }) (v := ?_) rfl (by kernel_rfl) (by kernel_rfl) (by kernel_rfl) (fun _ _ _ h => h) (Or.inl ⟨by rfl, ?_⟩) hHeld ?_
                rotate_left
                · intro w hSw; (try dsimp only at hSw); go_simp; first | done | with_reducible rfl
                try simp only [Act.put, List.setIfInBounds_toArray, List.set_cons_zero, List.set_cons_succ]
                refine wpAnyH_take (i := 2) (oi := { dst := some 127, op := Op.move (Operand.tmp 126), type := 4, pos := "law.go:137", after := #[{ on := 1, ground := Ground.data }], guard := none }) (v := ?_) rfl (by kernel_rfl) (by kernel_rfl) (by kernel_rfl) (fun _ _ _ h => h) (Or.inl ⟨by rfl, ?_⟩) hHeld ?_
                rotate_left
                · intro w hSw; (try dsimp only at hSw); go_simp; first | done | with_reducible rfl
                try simp only [Act.put, List.setIfInBounds_toArray, List.set_cons_zero, List.set_cons_succ]
                refine wpAnyH_take (i := 3) (oi := { dst := some 128, op := Op.move (Operand.tmp 8), type := 26, pos := "law.go:137", after := #[{ on := 2, ground := Ground.guard }], guard := some (2, false) }) (v := ?_) rfl (by kernel_rfl) (by kernel_rfl) (by kernel_rfl) (fun _ _ _ h => h) (Or.inl ⟨by rfl, ?_⟩) hHeld ?_
                rotate_left
                · intro w hSw; (try dsimp only at hSw); go_simp; first | done | with_reducible rfl
                try simp only [Act.put, List.setIfInBounds_toArray, List.set_cons_zero, List.set_cons_succ]
                refine wpAnyH_take (i := 5) (oi := { dst := some 130, op := Op.move (Operand.tmp 9), type := 28, pos := "law.go:137", after := #[{ on := 2, ground := Ground.guard }], guard := some (2, false) }) (v := ?_) rfl (by kernel_rfl) (by kernel_rfl) (by kernel_rfl) (fun _ _ _ h => h) (Or.inl ⟨by rfl, ?_⟩) hHeld ?_
                rotate_left
                · intro w hSw; (try dsimp only at hSw); go_simp; first | done | with_reducible rfl
                try simp only [Act.put, List.setIfInBounds_toArray, List.set_cons_zero, List.set_cons_succ]
                refine wpAnyH_take (i := 6) (oi := { dst := some 131, op := Op.nilCheck (Operand.tmp 130), type := 0, pos := "law.go:137", after := #[{ on := 5, ground := Ground.data }, { on := 2, ground := Ground.guard }], guard := some (2, false) }) (v := ?_) rfl (by kernel_rfl) (by kernel_rfl) (by kernel_rfl) (fun _ _ _ h => h) (Or.inl ⟨by rfl, ?_⟩) hHeld ?_
                rotate_left
                · intro w hSw; (try dsimp only at hSw); go_simp; first | done | with_reducible rfl
                try simp only [Act.put, List.setIfInBounds_toArray, List.set_cons_zero, List.set_cons_succ]
                refine wpAnyH_take (i := 7) (oi := { dst := some 132, op := Op.fieldAddr 30 (Operand.tmp 131) 0, type := 0, pos := "law.go:137", after := #[{ on := 6, ground := Ground.data }, { on := 2, ground := Ground.guard }], guard := some (2, false) }) (v := ?_) rfl (by kernel_rfl) (by kernel_rfl) (by kernel_rfl) (fun _ _ _ h => h) (Or.inl ⟨by rfl, ?_⟩) hHeld ?_
                rotate_left
                · intro w hSw; (try dsimp only at hSw); go_simp; first | done | with_reducible rfl
                try simp only [Act.put, List.setIfInBounds_toArray, List.set_cons_zero, List.set_cons_succ]
                refine wpAnyH_take (i := 8) (oi := { dst := some 133, op := Op.load 22 (Operand.tmp 132), type := 22, pos := "law.go:137", after := #[{ on := 7, ground := Ground.data }, { on := 2, ground := Ground.guard }], guard := some (2, false) }) (v := ?_) rfl (by kernel_rfl) (by kernel_rfl) (by kernel_rfl) (fun _ _ _ h => h) (Or.inl ⟨by rfl, ?_⟩) hHeld ?_
                rotate_left
                · intro w hSw; (try dsimp only at hSw); have c8 := hSw.1; go_simp; first | done | with_reducible rfl
                try simp only [Act.put, List.setIfInBounds_toArray, List.set_cons_zero, List.set_cons_succ]
                refine wpAnyH_take (i := 9) (oi := { dst := some 134, op := Op.call { callee := Callee.builtin Builtin.len, args := #[Operand.tmp 133], argTypes := #[22] }, type := 3, pos := "law.go:137", after := #[{ on := 8, ground := Ground.data }, { on := 2, ground := Ground.guard }], guard := some (2, false) }) (v := ?_) rfl (by kernel_rfl) (by kernel_rfl) (by kernel_rfl) (fun _ _ _ h => h) (Or.inl ⟨by rfl, ?_⟩) hHeld ?_
                rotate_left
                · intro w hSw; (try dsimp only at hSw); go_simp; first | done | with_reducible rfl
                try simp only [Act.put, List.setIfInBounds_toArray, List.set_cons_zero, List.set_cons_succ]
                refine wpAnyH_ready (rs := [4]) (by kernel_rfl) (by simp) ?_
                refine AllReadyH.cons (o := { dst := some 129, op := Op.call { callee := Callee.value (Operand.func 25), args := #[Operand.tmp 128], argTypes := #[26] }, type := 3, pos := "law.go:137", after := #[{ on := 3, ground := Ground.data }, { on := 2, ground := Ground.chain }, { on := 2, ground := Ground.guard }], guard := some (2, false) }) rfl (fun K hK => ?_) AllReadyH.nil
                clear hHeld
                go_simp
                refine HLF.out.mono ?_
                rintro e z1 ⟨rfl, rfl⟩
                refine hK.out _ _ (HD.out) (fun hHeld => ?_)
                clear hK K
                try simp only [Act.put, List.setIfInBounds_toArray, List.set_cons_zero, List.set_cons_succ]
                refine wpAnyH_take (i := 10) (oi := { dst := some 135, op := Op.binOp BinOp.neq 3 (Operand.tmp 129) (Operand.tmp 134) 3, type := 4, pos := "law.go:137", after := #[{ on := 4, ground := Ground.data }, { on := 9, ground := Ground.data }, { on := 2, ground := Ground.guard }], guard := some (2, false) }) (v := ?_) rfl (by kernel_rfl) (by kernel_rfl) (by kernel_rfl) (fun _ _ _ h => h) (Or.inl ⟨by rfl, ?_⟩) hHeld ?_
                rotate_left
                · intro w hSw; (try dsimp only at hSw); go_simp; first | done | with_reducible rfl
                try simp only [Act.put, List.setIfInBounds_toArray, List.set_cons_zero, List.set_cons_succ]
                refine wpAnyH_take (i := 11) (oi := { dst := some 136, op := Op.pick (Operand.tmp 127) (Operand.const (Value.bool true)) (Operand.tmp 135), type := 4, pos := "law.go:137", after := #[{ on := 2, ground := Ground.data }, { on := 10, ground := Ground.data }], guard := none }) (v := ?_) rfl (by kernel_rfl) (by kernel_rfl) (by kernel_rfl) (fun _ _ _ h => h) (Or.inl ⟨by rfl, ?_⟩) hHeld ?_
                rotate_left
                · intro w hSw; (try dsimp only at hSw); go_simp; first | done | with_reducible rfl
                try simp only [Act.put, List.setIfInBounds_toArray, List.set_cons_zero, List.set_cons_succ]
                refine wpAnyH_take (i := 12) (oi := { dst := some 137, op := Op.move (Operand.tmp 136), type := 4, pos := "law.go:137", after := #[{ on := 11, ground := Ground.data }, { on := 4, ground := Ground.chain }], guard := none }) (v := ?_) rfl (by kernel_rfl) (by kernel_rfl) (by kernel_rfl) (fun _ _ _ h => h) (Or.inl ⟨by rfl, ?_⟩) hHeld ?_
                rotate_left
                · intro w hSw; (try dsimp only at hSw); go_simp; first | done | with_reducible rfl
                try simp only [Act.put, List.setIfInBounds_toArray, List.set_cons_zero, List.set_cons_succ]
                refine wpAnyH_take (i := 13) (oi := { dst := some 138, op := Op.move (Operand.tmp 8), type := 26, pos := "law.go:137", after := #[{ on := 12, ground := Ground.guard }], guard := some (12, false) }) (v := ?_) rfl (by kernel_rfl) (by kernel_rfl) (by kernel_rfl) (fun _ _ _ h => h) (Or.inl ⟨by rfl, ?_⟩) hHeld ?_
                rotate_left
                · intro w hSw; (try dsimp only at hSw); go_simp; first | done | with_reducible rfl
                try simp only [Act.put, List.setIfInBounds_toArray, List.set_cons_zero, List.set_cons_succ]
                refine wpAnyH_take (i := 16) (oi := { dst := some 141, op := Op.move (Operand.tmp 9), type := 28, pos := "law.go:137", after := #[{ on := 12, ground := Ground.guard }], guard := some (12, false) }) (v := ?_) rfl (by kernel_rfl) (by kernel_rfl) (by kernel_rfl) (fun _ _ _ h => h) (Or.inl ⟨by rfl, ?_⟩) hHeld ?_
                rotate_left
                · intro w hSw; (try dsimp only at hSw); go_simp; first | done | with_reducible rfl
                try simp only [Act.put, List.setIfInBounds_toArray, List.set_cons_zero, List.set_cons_succ]
                refine wpAnyH_take (i := 17) (oi := { dst := some 142, op := Op.nilCheck (Operand.tmp 141), type := 0, pos := "law.go:137", after := #[{ on := 16, ground := Ground.data }, { on := 12, ground := Ground.guard }], guard := some (12, false) }) (v := ?_) rfl (by kernel_rfl) (by kernel_rfl) (by kernel_rfl) (fun _ _ _ h => h) (Or.inl ⟨by rfl, ?_⟩) hHeld ?_
                rotate_left
                · intro w hSw; (try dsimp only at hSw); go_simp; first | done | with_reducible rfl
                try simp only [Act.put, List.setIfInBounds_toArray, List.set_cons_zero, List.set_cons_succ]
                refine wpAnyH_take (i := 18) (oi := { dst := some 143, op := Op.fieldAddr 30 (Operand.tmp 142) 1, type := 0, pos := "law.go:137", after := #[{ on := 17, ground := Ground.data }, { on := 12, ground := Ground.guard }], guard := some (12, false) }) (v := ?_) rfl (by kernel_rfl) (by kernel_rfl) (by kernel_rfl) (fun _ _ _ h => h) (Or.inl ⟨by rfl, ?_⟩) hHeld ?_
                rotate_left
                · intro w hSw; (try dsimp only at hSw); go_simp; first | done | with_reducible rfl
                try simp only [Act.put, List.setIfInBounds_toArray, List.set_cons_zero, List.set_cons_succ]
                refine wpAnyH_take (i := 19) (oi := { dst := some 144, op := Op.load 4 (Operand.tmp 143), type := 4, pos := "law.go:137", after := #[{ on := 18, ground := Ground.data }, { on := 12, ground := Ground.guard }], guard := some (12, false) }) (v := ?_) rfl (by kernel_rfl) (by kernel_rfl) (by kernel_rfl) (fun _ _ _ h => h) (Or.inl ⟨by rfl, ?_⟩) hHeld ?_
                rotate_left
                · intro w hSw; (try dsimp only at hSw); have c19 := hSw.2; go_simp; first | done | with_reducible rfl
                try simp only [Act.put, List.setIfInBounds_toArray, List.set_cons_zero, List.set_cons_succ]
                refine wpAnyH_ready (rs := [14]) (by kernel_rfl) (by simp) ?_
                refine AllReadyH.cons (o := { dst := some 139, op := Op.call { callee := Callee.value (Operand.func 26), args := #[Operand.tmp 138], argTypes := #[26] }, type := 42, pos := "law.go:137", after := #[{ on := 13, ground := Ground.data }, { on := 12, ground := Ground.chain }, { on := 12, ground := Ground.guard }], guard := some (12, false) }) rfl (fun K hK => ?_) AllReadyH.nil
                clear hHeld
                go_simp
                refine HER.out.mono ?_
                rintro e z2 ⟨rfl, rfl⟩
                refine hK.out _ _ (HD.out) (fun hHeld => ?_)
                clear hK K
                try simp only [Act.put, List.setIfInBounds_toArray, List.set_cons_zero, List.set_cons_succ]
                refine wpAnyH_take (i := 15) (oi := { dst := some 140, op := Op.binOp BinOp.neq 42 (Operand.tmp 139) (Operand.const (Value.int IntKind.i64 0)) 42, type := 4, pos := "law.go:137", after := #[{ on := 14, ground := Ground.data }, { on := 12, ground := Ground.guard }], guard := some (12, false) }) (v := ?_) rfl (by kernel_rfl) (by kernel_rfl) (by kernel_rfl) (fun _ _ _ h => h) (Or.inl ⟨by rfl, ?_⟩) hHeld ?_
                rotate_left
                · intro w hSw; (try dsimp only at hSw); go_simp; first | done | with_reducible rfl
                try simp only [Act.put, List.setIfInBounds_toArray, List.set_cons_zero, List.set_cons_succ]
                refine wpAnyH_take (i := 20) (oi := { dst := some 145, op := Op.binOp BinOp.neq 4 (Operand.tmp 140) (Operand.tmp 144) 4, type := 4, pos := "law.go:137", after := #[{ on := 15, ground := Ground.data }, { on := 19, ground := Ground.data }, { on := 12, ground := Ground.guard }], guard := some (12, false) }) (v := ?_) rfl (by kernel_rfl) (by kernel_rfl) (by kernel_rfl) (fun _ _ _ h => h) (Or.inl ⟨by rfl, ?_⟩) hHeld ?_
                rotate_left
                · intro w hSw; (try dsimp only at hSw); go_simp; first | done | with_reducible rfl
                try simp only [Act.put, List.setIfInBounds_toArray, List.set_cons_zero, List.set_cons_succ]
                refine wpAnyH_take (i := 21) (oi := { dst := some 146, op := Op.pick (Operand.tmp 137) (Operand.const (Value.bool true)) (Operand.tmp 145), type := 4, pos := "law.go:137", after := #[{ on := 12, ground := Ground.data }, { on := 20, ground := Ground.data }], guard := none }) (v := ?_) rfl (by kernel_rfl) (by kernel_rfl) (by kernel_rfl) (fun _ _ _ h => h) (Or.inl ⟨by rfl, ?_⟩) hHeld ?_
                rotate_left
                · intro w hSw; (try dsimp only at hSw); go_simp; first | done | with_reducible rfl
                try simp only [Act.put, List.setIfInBounds_toArray, List.set_cons_zero, List.set_cons_succ]
                refine wpAnyH_done (by kernel_rfl) ?_ _
                clear hHeld
                go_wp2_with fail
                go_roundw
                case rel => exact ⟨k + 1, by omega, by go_num, bs2, false, F', G2, HRd, HMd, HFGz, HBd, HXz, HLz⟩
                case measure => simp [intOf]; omega
          by_cases hc3 : kd = 3
          · skip
            subst hc3
            have hmo : f.most < 9223372036854775808 := HOKf.out.2.2.2
            have HROWd := hide (show t1.drew.heap[gf]? = some (.cells f.cells.toArray 33 (0, 0)) from HROW.out)
            have HSd : Hid (gf < t1.drew.heap.size) := hide (show gf < t1.drew.heap.size from HSu.out)
            have HRd1 := hide (show Rd t1.drew w.heap.size F' g bs st from HR1.out.keep (Keep.drew (fun _ => False) t1) (fun _ _ => id))
            have HMd1 := hide (show RdM t1.drew w.heap.size G' gm bs st from HM1.out.keep (Keep.drew (fun _ => False) t1) (fun _ _ => id))
            have HBd1 := hide (show Below w.heap.size w t1.drew from HB1.out.drew)
            have HA := hide (rt_all f.most (by omega) t1.drew w.heap.size F' g bs st HRd1.out (ht.below HBd1.out h2) HXR.out (by have := HBL.out; omega))
            have HMM := hide (fun (t2 : World) (h : RdM t2 w.heap.size G' gm bs st) => mt_all f.most hmo t2 w.heap.size G' gm bs st h HXR.out (by have := HBL.out; omega))
            obtain ⟨jd, hjd⟩ := stp_drop st ((cutTS f.most bs).map (·.2)) bs (cutT_drop f.most bs HXR.out)
            obtain ⟨bs2, hbs2⟩ : ∃ bs2, (stp st ((cutTS f.most bs).map (·.2)) bs).1 = bs2 := ⟨_, rfl⟩
            obtain ⟨st2, hst2⟩ : ∃ st2, (stp st ((cutTS f.most bs).map (·.2)) bs).2 = st2 := ⟨_, rfl⟩
            unfold AllR at HA
            unfold AllM at HMM
            rw [hbs2] at hjd
            simp only [hbs2, hst2] at HA HMM
            have HXz : Hid (∀ x ∈ bs2, 0 ≤ x ∧ x < 256) := hide (fun x hx => HXR.out x (by rw [hjd] at hx; exact List.mem_of_mem_drop hx))
            have HLz : Tuck (bs2.length ≤ 20000) := tuck (by rw [hjd, List.length_drop]; have := HBL.out; omega)
            generalize vT st f.most bs = vv at HA HMM
            clear hbs2 hst2 hjd HR1 HM1 HB1 hmo
            go_wp2_with fail
            refine wp_region_held_drew (S := fun w' => w'.heap[gf]? = some (.cells f.cells.toArray 33 (0, 0))) (by kernel_rfl) HROWd.out (fun hHeld => ?_)
            refine wpAnyH_take (i := 0) (oi := { dst := some 108, op := Op.move (Operand.tmp 8), type := 26, pos := "law.go:125", after := #[], guard := none }) (v := ?_) rfl (by kernel_rfl) (by kernel_rfl) (by kernel_rfl) (fun _ _ _ h => h) (Or.inl ⟨by rfl, ?_⟩) hHeld ?_
            rotate_left
            · intro w hSw; (try dsimp only at hSw); go_simp; first | done | with_reducible rfl
            try simp only [Act.put, List.setIfInBounds_toArray, List.set_cons_zero, List.set_cons_succ]
            refine wpAnyH_take (i := 1) (oi := { dst := some 109, op := Op.fieldAddr 33 (Operand.tmp 12) 1, type := 0, pos := "law.go:125", after := #[], guard := none }) (v := ?_) rfl (by kernel_rfl) (by kernel_rfl) (by kernel_rfl) (fun _ _ _ h => h) (Or.inl ⟨by rfl, ?_⟩) hHeld ?_
            rotate_left
            · intro w hSw; (try dsimp only at hSw); go_simp; first | done | with_reducible rfl
            try simp only [Act.put, List.setIfInBounds_toArray, List.set_cons_zero, List.set_cons_succ]
            refine wpAnyH_take (i := 2) (oi := { dst := some 110, op := Op.load 3 (Operand.tmp 109), type := 3, pos := "law.go:125", after := #[{ on := 1, ground := Ground.data }], guard := none }) (v := ?_) rfl (by kernel_rfl) (by kernel_rfl) (by kernel_rfl) (fun _ _ _ h => h) (Or.inl ⟨by rfl, ?_⟩) hHeld ?_
            rotate_left
            · intro w hSw; (try dsimp only at hSw); (have c2 : w.cell? ⟨gf, 1, none⟩ = some (.int .i64 f.most) := (cell_of_row w gf 1 _ _ _ hSw).trans rfl); go_simp; first | done | with_reducible rfl
            try simp only [Act.put, List.setIfInBounds_toArray, List.set_cons_zero, List.set_cons_succ]
            refine wpAnyH_take (i := 4) (oi := { dst := some 112, op := Op.move (Operand.tmp 9), type := 28, pos := "law.go:125", after := #[], guard := none }) (v := ?_) rfl (by kernel_rfl) (by kernel_rfl) (by kernel_rfl) (fun _ _ _ h => h) (Or.inl ⟨by rfl, ?_⟩) hHeld ?_
            rotate_left
            · intro w hSw; (try dsimp only at hSw); go_simp; first | done | with_reducible rfl
            try simp only [Act.put, List.setIfInBounds_toArray, List.set_cons_zero, List.set_cons_succ]
            refine wpAnyH_take (i := 5) (oi := { dst := some 113, op := Op.fieldAddr 33 (Operand.tmp 12) 1, type := 0, pos := "law.go:125", after := #[], guard := none }) (v := ?_) rfl (by kernel_rfl) (by kernel_rfl) (by kernel_rfl) (fun _ _ _ h => h) (Or.inl ⟨by rfl, ?_⟩) hHeld ?_
            rotate_left
            · intro w hSw; (try dsimp only at hSw); go_simp; first | done | with_reducible rfl
            try simp only [Act.put, List.setIfInBounds_toArray, List.set_cons_zero, List.set_cons_succ]
            refine wpAnyH_take (i := 6) (oi := { dst := some 114, op := Op.load 3 (Operand.tmp 113), type := 3, pos := "law.go:125", after := #[{ on := 5, ground := Ground.data }], guard := none }) (v := ?_) rfl (by kernel_rfl) (by kernel_rfl) (by kernel_rfl) (fun _ _ _ h => h) (Or.inl ⟨by rfl, ?_⟩) hHeld ?_
            rotate_left
            · intro w hSw; (try dsimp only at hSw); (have c2 : w.cell? ⟨gf, 1, none⟩ = some (.int .i64 f.most) := (cell_of_row w gf 1 _ _ _ hSw).trans rfl); go_simp; first | done | with_reducible rfl
            try simp only [Act.put, List.setIfInBounds_toArray, List.set_cons_zero, List.set_cons_succ]
            refine wpAnyH_ready (rs := [3]) (by kernel_rfl) (by simp) ?_
            refine AllReadyH.cons (o := { dst := some 111, op := Op.call { callee := Callee.value (Operand.func 20), args := #[Operand.tmp 108, Operand.tmp 110], argTypes := #[26, 3] }, type := 9, pos := "law.go:125", after := #[{ on := 0, ground := Ground.data }, { on := 2, ground := Ground.data }], guard := none }) rfl (fun K hK => ?_) AllReadyH.nil
            clear hHeld
            go_simp
            refine HA.out.mono ?_
            rintro e t2 ⟨v, rfl, rfl, hK, hR2⟩
            have HROW2 := hide ((hK.block gf HSd.out HFF.out.1).trans HROWd.out)
            have HR2 := hide hR2
            have HM2 := hide (HMd1.out.keep hK (fun j a b => HFG.out j b a))
            have HB2 := hide (hK.through HBd1.out (fun j h => (HRd1.out.ge j h).1) HBd1.out.size)
            have HM3 := hide (HMM.out t2 HM2.out)
            clear hK hR2 HA HMd1 HBd1 HRd1 HMM HROWd
            refine hK.out _ _ (HROW2.out) (fun hHeld => ?_)
            clear hK K
            try simp only [Act.put, List.setIfInBounds_toArray, List.set_cons_zero, List.set_cons_succ]
            refine wpAnyH_ready (rs := [7]) (by kernel_rfl) (by simp) ?_
            refine AllReadyH.cons (o := { dst := some 115, op := Op.call { callee := Callee.value (Operand.func 21), args := #[Operand.tmp 112, Operand.tmp 114], argTypes := #[28, 3] }, type := 9, pos := "law.go:125", after := #[{ on := 4, ground := Ground.data }, { on := 6, ground := Ground.data }, { on := 3, ground := Ground.chain }], guard := none }) rfl (fun K hK => ?_) AllReadyH.nil
            clear hHeld
            go_simp
            refine HM3.out.mono ?_
            rintro e tz ⟨v, rfl, rfl, hKM, hM3⟩
            have HROW3 := hide ((hKM.block gf (Array.getElem?_eq_some_iff.1 HROW2.out).1 HFF.out.2).trans HROW2.out)
            have HRz := hide (HR2.out.keep hKM (fun j a b => HFG.out j a b))
            have HBz := hide (hKM.through HB2.out (fun j h => (HM2.out.ge j h).1) HB2.out.size)
            have HFGz : Hid (∀ k, F' k → ¬ Up G' t2 tz k) := hide (fun k a b => by
              rcases b with b | b
              · exact HFG.out k a b
              · have := (HR2.out.ge k a).2; omega)
            have HMz := hide hM3
            obtain ⟨G2, hG2⟩ : ∃ G2, Up G' t2 tz = G2 := ⟨_, rfl⟩
            rw [hG2] at HFGz HMz
            clear hG2 hKM hM3 HM3 HM2 HB2 HR2 HFG
            refine hK.out _ _ (HROW3.out) (fun hHeld => ?_)
            clear hK K
            try simp only [Act.put, List.setIfInBounds_toArray, List.set_cons_zero, List.set_cons_succ]
            refine wpAnyH_take (i := 8) (oi := { dst := some 116, op := Op.binOp BinOp.eql 9 (Operand.tmp 111) (Operand.tmp 115) 9, type := 4, pos := "law.go:125", after := #[{ on := 3, ground := Ground.data }, { on := 7, ground := Ground.data }], guard := none }) (v := ?_) rfl (by kernel_rfl) (by kernel_rfl) (by kernel_rfl) (fun _ _ _ h => h) (Or.inl ⟨by rfl, ?_⟩) hHeld ?_
            rotate_left
            · intro w hSw; (try dsimp only at hSw); go_simp; first | done | with_reducible rfl
            try simp only [Act.put, List.setIfInBounds_toArray, List.set_cons_zero, List.set_cons_succ]
            refine wpAnyH_take (i := 9) (oi := { dst := some 13, op := Op.assign (Operand.tmp 116), type := 4, pos := "law.go:125", after := #[{ on := 8, ground := Ground.data }, { on := 7, ground := Ground.chain }, { on := 0, ground := Ground.phase }, { on := 1, ground := Ground.phase }, { on := 2, ground := Ground.phase }, { on := 3, ground := Ground.phase }, { on := 4, ground := Ground.phase }, { on := 5, ground := Ground.phase }, { on := 6, ground := Ground.phase }, { on := 7, ground := Ground.phase }, { on := 8, ground := Ground.phase }], guard := none }) (v := ?_) rfl (by kernel_rfl) (by kernel_rfl) (by kernel_rfl) (fun _ _ _ h => h) (Or.inl ⟨by rfl, ?_⟩) hHeld ?_
            rotate_left
            · intro w hSw; (try dsimp only at hSw); go_simp; first | done | with_reducible rfl
            try simp only [Act.put, List.setIfInBounds_toArray, List.set_cons_zero, List.set_cons_succ]
            refine wpAnyH_done (by kernel_rfl) ?_ _
            clear hHeld
            go_upto_region 30 with (fail)
            try simp only [beq_self_eq_true]
            by_cases hfl : (k : Int) = fl
            · have HFA := hide (fail_any tz _ F' g bs2 st2 HRz.out)
              go_wp2_with fail
              refine HFA.out.mono ?_
              rintro e ty ⟨rfl, hK, hR⟩
              have HMy := hide (HMz.out.keep hK (fun j a b => HFGz.out j b a))
              have HBy := hide (hK.through HBz.out (fun j h => (HRz.out.ge j h).1) HBz.out.size)
              have HSS := hide (HMy.out.stop true)
              have HRy := hide (hR.keep HSS.out.2 (fun j a b => HFGz.out j a b))
              have HBs := hide (HSS.out.2.through HBy.out (fun j h => (HMy.out.ge j h).1) HBy.out.size)
              have HMs := hide HSS.out.1
              obtain ⟨am0, cm0, _, _, _, _, _, _, f1⟩ := HMy.out.cells
              clear hK hR HSS HFA HRz HMz HBz
              go_upto_region 33 with (fail)
              clear f1 HMy HBy
              generalize ty.setCell ⟨gm, 1, none⟩ (.bool true) = tz at HRy HBs HMs ⊢
              have HRz := HRy
              have HMz := HMs
              have HBz := HBs
              clear HRy HMs HBs
              have HRd := hide (show Rd tz.drew w.heap.size F' g bs2 true from HRz.out.keep (Keep.drew (fun _ => False) tz) (fun _ _ => id))
              have HMd := hide (show RdM tz.drew w.heap.size G2 gm bs2 true from HMz.out.keep (Keep.drew (fun _ => False) tz) (fun _ _ => id))
              have HBd := hide (show Below w.heap.size w tz.drew from HBz.out.drew)
              obtain ⟨am, cm, _, _, _, d0, d1, _, _⟩ := HMd.out.cells
              have HD := hide (And.intro d0 d1)
              clear d0 d1
              have HLF := hide (left_any tz.drew _ _ _ _ _ HRd.out)
              have HER := hide (err_any tz.drew _ _ _ _ _ HRd.out)
              rw [show errOf true = 2 from rfl] at HER
              obtain ⟨lz, hlz⟩ : ∃ lz, bs2.length = lz := ⟨_, rfl⟩
              rw [hlz] at HD HLF
              clear hlz
              go_wp2_with fail
              refine wp_region_held_drew (S := fun w' => w'.cell? ⟨gm, 0, none⟩ = some (.slice am lz cm) ∧ w'.cell? ⟨gm, 1, none⟩ = some (.bool true)) (by kernel_rfl) HD.out (fun hHeld => ?_)
              refine wpAnyH_take (i := 0) (oi := { dst := some 125, op := Op.move (Operand.tmp 13), type := 4, pos := "law.go:137", after := #[], guard := none }) (v := ?_) rfl (by kernel_rfl) (by kernel_rfl) (by kernel_rfl) (fun _ _ _ h => h) (Or.inl ⟨by rfl, ?_⟩) hHeld ?_
              rotate_left
              · intro w hSw; (try dsimp only at hSw); go_simp; first | done | with_reducible rfl
              try simp only [Act.put, List.setIfInBounds_toArray, List.set_cons_zero, List.set_cons_succ]
              refine wpAnyH_take (i := 1) (oi := { dst := some 126, op := Op.unOp UnOp.not 4 (Operand.tmp 125), type := 4, pos := "law.go:137", after := #[{ on := 0, ground := Ground.data }], guard := none }) (v := ?_) rfl (by kernel_rfl) (by kernel_rfl) (by kernel_rfl) (fun _ _ _ h => h) (Or.inl ⟨by rfl, ?_⟩) hHeld ?_
              rotate_left
              · intro w hSw; (try dsimp only at hSw); go_simp; first | done | with_reducible rfl
              try simp only [Act.put, List.setIfInBounds_toArray, List.set_cons_zero, List.set_cons_succ]
              refine wpAnyH_take (i := 2) (oi := { dst := some 127, op := Op.move (Operand.tmp 126), type := 4, pos := "law.go:137", after := #[{ on := 1, ground := Ground.data }], guard := none }) (v := ?_) rfl (by kernel_rfl) (by kernel_rfl) (by kernel_rfl) (fun _ _ _ h => h) (Or.inl ⟨by rfl, ?_⟩) hHeld ?_
              rotate_left
              · intro w hSw; (try dsimp only at hSw); go_simp; first | done | with_reducible rfl
              try simp only [Act.put, List.setIfInBounds_toArray, List.set_cons_zero, List.set_cons_succ]
              refine wpAnyH_take (i := 3) (oi := { dst := some 128, op := Op.move (Operand.tmp 8), type := 26, pos := "law.go:137", after := #[{ on := 2, ground := Ground.guard }], guard := some (2, false) }) (v := ?_) rfl (by kernel_rfl) (by kernel_rfl) (by kernel_rfl) (fun _ _ _ h => h) (Or.inl ⟨by rfl, ?_⟩) hHeld ?_
              rotate_left
              · intro w hSw; (try dsimp only at hSw); go_simp; first | done | with_reducible rfl
              try simp only [Act.put, List.setIfInBounds_toArray, List.set_cons_zero, List.set_cons_succ]
              refine wpAnyH_take (i := 5) (oi := { dst := some 130, op := Op.move (Operand.tmp 9), type := 28, pos := "law.go:137", after := #[{ on := 2, ground := Ground.guard }], guard := some (2, false) }) (v := ?_) rfl (by kernel_rfl) (by kernel_rfl) (by kernel_rfl) (fun _ _ _ h => h) (Or.inl ⟨by rfl, ?_⟩) hHeld ?_
              rotate_left
              · intro w hSw; (try dsimp only at hSw); go_simp; first | done | with_reducible rfl
              try simp only [Act.put, List.setIfInBounds_toArray, List.set_cons_zero, List.set_cons_succ]
              refine wpAnyH_take (i := 6) (oi := { dst := some 131, op := Op.nilCheck (Operand.tmp 130), type := 0, pos := "law.go:137", after := #[{ on := 5, ground := Ground.data }, { on := 2, ground := Ground.guard }], guard := some (2, false) }) (v := ?_) rfl (by kernel_rfl) (by kernel_rfl) (by kernel_rfl) (fun _ _ _ h => h) (Or.inl ⟨by rfl, ?_⟩) hHeld ?_
              rotate_left
              · intro w hSw; (try dsimp only at hSw); go_simp; first | done | with_reducible rfl
              try simp only [Act.put, List.setIfInBounds_toArray, List.set_cons_zero, List.set_cons_succ]
              refine wpAnyH_take (i := 7) (oi := { dst := some 132, op := Op.fieldAddr 30 (Operand.tmp 131) 0, type := 0, pos := "law.go:137", after := #[{ on := 6, ground := Ground.data }, { on := 2, ground := Ground.guard }], guard := some (2, false) }) (v := ?_) rfl (by kernel_rfl) (by kernel_rfl) (by kernel_rfl) (fun _ _ _ h => h) (Or.inl ⟨by rfl, ?_⟩) hHeld ?_
              rotate_left
              · intro w hSw; (try dsimp only at hSw); go_simp; first | done | with_reducible rfl
              try simp only [Act.put, List.setIfInBounds_toArray, List.set_cons_zero, List.set_cons_succ]
              refine wpAnyH_take (i := 8) (oi := { dst := some 133, op := Op.load 22 (Operand.tmp 132), type := 22, pos := "law.go:137", after := #[{ on := 7, ground := Ground.data }, { on := 2, ground := Ground.guard }], guard := some (2, false) }) (v := ?_) rfl (by kernel_rfl) (by kernel_rfl) (by kernel_rfl) (fun _ _ _ h => h) (Or.inl ⟨by rfl, ?_⟩) hHeld ?_
              rotate_left
              · intro w hSw; (try dsimp only at hSw); have c8 := hSw.1; go_simp; first | done | with_reducible rfl
              try simp only [Act.put, List.setIfInBounds_toArray, List.set_cons_zero, List.set_cons_succ]
              refine wpAnyH_take (i := 9) (oi := { dst := some 134, op := Op.call { callee := Callee.builtin Builtin.len, args := #[Operand.tmp 133], argTypes := #[22] }, type := 3, pos := "law.go:137", after := #[{ on := 8, ground := Ground.data }, { on := 2, ground := Ground.guard }], guard := some (2, false) }) (v := ?_) rfl (by kernel_rfl) (by kernel_rfl) (by kernel_rfl) (fun _ _ _ h => h) (Or.inl ⟨by rfl, ?_⟩) hHeld ?_
              rotate_left
              · intro w hSw; (try dsimp only at hSw); go_simp; first | done | with_reducible rfl
              try simp only [Act.put, List.setIfInBounds_toArray, List.set_cons_zero, List.set_cons_succ]
              refine wpAnyH_ready (rs := [4]) (by kernel_rfl) (by simp) ?_
              refine AllReadyH.cons (o := { dst := some 129, op := Op.call { callee := Callee.value (Operand.func 25), args := #[Operand.tmp 128], argTypes := #[26] }, type := 3, pos := "law.go:137", after := #[{ on := 3, ground := Ground.data }, { on := 2, ground := Ground.chain }, { on := 2, ground := Ground.guard }], guard := some (2, false) }) rfl (fun K hK => ?_) AllReadyH.nil
              clear hHeld
              go_simp
              refine HLF.out.mono ?_
              rintro e z1 ⟨rfl, rfl⟩
              refine hK.out _ _ (HD.out) (fun hHeld => ?_)
              clear hK K
              try simp only [Act.put, List.setIfInBounds_toArray, List.set_cons_zero, List.set_cons_succ]
              refine wpAnyH_take (i := 10) (oi := { dst := some 135, op := Op.binOp BinOp.neq 3 (Operand.tmp 129) (Operand.tmp 134) 3, type := 4, pos := "law.go:137", after := #[{ on := 4, ground := Ground.data }, { on := 9, ground := Ground.data }, { on := 2, ground := Ground.guard }], guard := some (2, false) }) (v := ?_) rfl (by kernel_rfl) (by kernel_rfl) (by kernel_rfl) (fun _ _ _ h => h) (Or.inl ⟨by rfl, ?_⟩) hHeld ?_
              rotate_left
              · intro w hSw; (try dsimp only at hSw); go_simp; first | done | with_reducible rfl
              try simp only [Act.put, List.setIfInBounds_toArray, List.set_cons_zero, List.set_cons_succ]
              refine wpAnyH_take (i := 11) (oi := { dst := some 136, op := Op.pick (Operand.tmp 127) (Operand.const (Value.bool true)) (Operand.tmp 135), type := 4, pos := "law.go:137", after := #[{ on := 2, ground := Ground.data }, { on := 10, ground := Ground.data }], guard := none }) (v := ?_) rfl (by kernel_rfl) (by kernel_rfl) (by kernel_rfl) (fun _ _ _ h => h) (Or.inl ⟨by rfl, ?_⟩) hHeld ?_
              rotate_left
              · intro w hSw; (try dsimp only at hSw); go_simp; first | done | with_reducible rfl
              try simp only [Act.put, List.setIfInBounds_toArray, List.set_cons_zero, List.set_cons_succ]
              refine wpAnyH_take (i := 12) (oi := { dst := some 137, op := Op.move (Operand.tmp 136), type := 4, pos := "law.go:137", after := #[{ on := 11, ground := Ground.data }, { on := 4, ground := Ground.chain }], guard := none }) (v := ?_) rfl (by kernel_rfl) (by kernel_rfl) (by kernel_rfl) (fun _ _ _ h => h) (Or.inl ⟨by rfl, ?_⟩) hHeld ?_
              rotate_left
              · intro w hSw; (try dsimp only at hSw); go_simp; first | done | with_reducible rfl
              try simp only [Act.put, List.setIfInBounds_toArray, List.set_cons_zero, List.set_cons_succ]
              refine wpAnyH_take (i := 13) (oi := { dst := some 138, op := Op.move (Operand.tmp 8), type := 26, pos := "law.go:137", after := #[{ on := 12, ground := Ground.guard }], guard := some (12, false) }) (v := ?_) rfl (by kernel_rfl) (by kernel_rfl) (by kernel_rfl) (fun _ _ _ h => h) (Or.inl ⟨by rfl, ?_⟩) hHeld ?_
              rotate_left
              · intro w hSw; (try dsimp only at hSw); go_simp; first | done | with_reducible rfl
              try simp only [Act.put, List.setIfInBounds_toArray, List.set_cons_zero, List.set_cons_succ]
              refine wpAnyH_take (i := 16) (oi := { dst := some 141, op := Op.move (Operand.tmp 9), type := 28, pos := "law.go:137", after := #[{ on := 12, ground := Ground.guard }], guard := some (12, false) }) (v := ?_) rfl (by kernel_rfl) (by kernel_rfl) (by kernel_rfl) (fun _ _ _ h => h) (Or.inl ⟨by rfl, ?_⟩) hHeld ?_
              rotate_left
              · intro w hSw; (try dsimp only at hSw); go_simp; first | done | with_reducible rfl
              try simp only [Act.put, List.setIfInBounds_toArray, List.set_cons_zero, List.set_cons_succ]
              refine wpAnyH_take (i := 17) (oi := { dst := some 142, op := Op.nilCheck (Operand.tmp 141), type := 0, pos := "law.go:137", after := #[{ on := 16, ground := Ground.data }, { on := 12, ground := Ground.guard }], guard := some (12, false) }) (v := ?_) rfl (by kernel_rfl) (by kernel_rfl) (by kernel_rfl) (fun _ _ _ h => h) (Or.inl ⟨by rfl, ?_⟩) hHeld ?_
              rotate_left
              · intro w hSw; (try dsimp only at hSw); go_simp; first | done | with_reducible rfl
              try simp only [Act.put, List.setIfInBounds_toArray, List.set_cons_zero, List.set_cons_succ]
              refine wpAnyH_take (i := 18) (oi := { dst := some 143, op := Op.fieldAddr 30 (Operand.tmp 142) 1, type := 0, pos := "law.go:137", after := #[{ on := 17, ground := Ground.data }, { on := 12, ground := Ground.guard }], guard := some (12, false) }) (v := ?_) rfl (by kernel_rfl) (by kernel_rfl) (by kernel_rfl) (fun _ _ _ h => h) (Or.inl ⟨by rfl, ?_⟩) hHeld ?_
              rotate_left
              · intro w hSw; (try dsimp only at hSw); go_simp; first | done | with_reducible rfl
              try simp only [Act.put, List.setIfInBounds_toArray, List.set_cons_zero, List.set_cons_succ]
              refine wpAnyH_take (i := 19) (oi := { dst := some 144, op := Op.load 4 (Operand.tmp 143), type := 4, pos := "law.go:137", after := #[{ on := 18, ground := Ground.data }, { on := 12, ground := Ground.guard }], guard := some (12, false) }) (v := ?_) rfl (by kernel_rfl) (by kernel_rfl) (by kernel_rfl) (fun _ _ _ h => h) (Or.inl ⟨by rfl, ?_⟩) hHeld ?_
              rotate_left
              · intro w hSw; (try dsimp only at hSw); have c19 := hSw.2; go_simp; first | done | with_reducible rfl
              try simp only [Act.put, List.setIfInBounds_toArray, List.set_cons_zero, List.set_cons_succ]
              refine wpAnyH_ready (rs := [14]) (by kernel_rfl) (by simp) ?_
              refine AllReadyH.cons (o := { dst := some 139, op := Op.call { callee := Callee.value (Operand.func 26), args := #[Operand.tmp 138], argTypes := #[26] }, type := 42, pos := "law.go:137", after := #[{ on := 13, ground := Ground.data }, { on := 12, ground := Ground.chain }, { on := 12, ground := Ground.guard }], guard := some (12, false) }) rfl (fun K hK => ?_) AllReadyH.nil
              clear hHeld
              go_simp
              refine HER.out.mono ?_
              rintro e z2 ⟨rfl, rfl⟩
              refine hK.out _ _ (HD.out) (fun hHeld => ?_)
              clear hK K
              try simp only [Act.put, List.setIfInBounds_toArray, List.set_cons_zero, List.set_cons_succ]
              refine wpAnyH_take (i := 15) (oi := { dst := some 140, op := Op.binOp BinOp.neq 42 (Operand.tmp 139) (Operand.const (Value.int IntKind.i64 0)) 42, type := 4, pos := "law.go:137", after := #[{ on := 14, ground := Ground.data }, { on := 12, ground := Ground.guard }], guard := some (12, false) }) (v := ?_) rfl (by kernel_rfl) (by kernel_rfl) (by kernel_rfl) (fun _ _ _ h => h) (Or.inl ⟨by rfl, ?_⟩) hHeld ?_
              rotate_left
              · intro w hSw; (try dsimp only at hSw); go_simp; first | done | with_reducible rfl
              try simp only [Act.put, List.setIfInBounds_toArray, List.set_cons_zero, List.set_cons_succ]
              refine wpAnyH_take (i := 20) (oi := { dst := some 145, op := Op.binOp BinOp.neq 4 (Operand.tmp 140) (Operand.tmp 144) 4, type := 4, pos := "law.go:137", after := #[{ on := 15, ground := Ground.data }, { on := 19, ground := Ground.data }, { on := 12, ground := Ground.guard }], guard := some (12, false) }) (v := ?_) rfl (by kernel_rfl) (by kernel_rfl) (by kernel_rfl) (fun _ _ _ h => h) (Or.inl ⟨by rfl, ?_⟩) hHeld ?_
              rotate_left
              · intro w hSw; (try dsimp only at hSw); go_simp; first | done | with_reducible rfl
              try simp only [Act.put, List.setIfInBounds_toArray, List.set_cons_zero, List.set_cons_succ]
              refine wpAnyH_take (i := 21) (oi := { dst := some 146, op := Op.pick (Operand.tmp 137) (Operand.const (Value.bool true)) (Operand.tmp 145), type := 4, pos := "law.go:137", after := #[{ on := 12, ground := Ground.data }, { on := 20, ground := Ground.data }], guard := none }) (v := ?_) rfl (by kernel_rfl) (by kernel_rfl) (by kernel_rfl) (fun _ _ _ h => h) (Or.inl ⟨by rfl, ?_⟩) hHeld ?_
              rotate_left
              · intro w hSw; (try dsimp only at hSw); go_simp; first | done | with_reducible rfl
              try simp only [Act.put, List.setIfInBounds_toArray, List.set_cons_zero, List.set_cons_succ]
              refine wpAnyH_done (by kernel_rfl) ?_ _
              clear hHeld
              go_wp2_with fail
              go_roundw
              case rel => exact ⟨k + 1, by omega, by go_num, bs2, true, F', G2, HRd, HMd, HFGz, HBd, HXz, HLz⟩
              case measure => simp [intOf]; omega
            · cases st2 with
              | true =>
                have HRd := hide (show Rd tz.drew w.heap.size F' g bs2 true from HRz.out.keep (Keep.drew (fun _ => False) tz) (fun _ _ => id))
                have HMd := hide (show RdM tz.drew w.heap.size G2 gm bs2 true from HMz.out.keep (Keep.drew (fun _ => False) tz) (fun _ _ => id))
                have HBd := hide (show Below w.heap.size w tz.drew from HBz.out.drew)
                obtain ⟨am, cm, _, _, _, d0, d1, _, _⟩ := HMd.out.cells
                have HD := hide (And.intro d0 d1)
                clear d0 d1
                have HLF := hide (left_any tz.drew _ _ _ _ _ HRd.out)
                have HER := hide (err_any tz.drew _ _ _ _ _ HRd.out)
                rw [show errOf true = 2 from rfl] at HER
                obtain ⟨lz, hlz⟩ : ∃ lz, bs2.length = lz := ⟨_, rfl⟩
                rw [hlz] at HD HLF
                clear hlz
                go_wp2_with fail
                refine wp_region_held_drew (S := fun w' => w'.cell? ⟨gm, 0, none⟩ = some (.slice am lz cm) ∧ w'.cell? ⟨gm, 1, none⟩ = some (.bool true)) (by kernel_rfl) HD.out (fun hHeld => ?_)
                refine wpAnyH_take (i := 0) (oi := { dst := some 125, op := Op.move (Operand.tmp 13), type := 4, pos := "law.go:137", after := #[], guard := none }) (v := ?_) rfl (by kernel_rfl) (by kernel_rfl) (by kernel_rfl) (fun _ _ _ h => h) (Or.inl ⟨by rfl, ?_⟩) hHeld ?_
                rotate_left
                · intro w hSw; (try dsimp only at hSw); go_simp; first | done | with_reducible rfl
                try simp only [Act.put, List.setIfInBounds_toArray, List.set_cons_zero, List.set_cons_succ]
                refine wpAnyH_take (i := 1) (oi := { dst := some 126, op := Op.unOp UnOp.not 4 (Operand.tmp 125), type := 4, pos := "law.go:137", after := #[{ on := 0, ground := Ground.data }], guard := none }) (v := ?_) rfl (by kernel_rfl) (by kernel_rfl) (by kernel_rfl) (fun _ _ _ h => h) (Or.inl ⟨by rfl, ?_⟩) hHeld ?_
                rotate_left
                · intro w hSw; (try dsimp only at hSw); go_simp; first | done | with_reducible rfl
                try simp only [Act.put, List.setIfInBounds_toArray, List.set_cons_zero, List.set_cons_succ]
                refine wpAnyH_take (i := 2) (oi := { dst := some 127, op := Op.move (Operand.tmp 126), type := 4, pos := "law.go:137", after := #[{ on := 1, ground := Ground.data }], guard := none }) (v := ?_) rfl (by kernel_rfl) (by kernel_rfl) (by kernel_rfl) (fun _ _ _ h => h) (Or.inl ⟨by rfl, ?_⟩) hHeld ?_
                rotate_left
                · intro w hSw; (try dsimp only at hSw); go_simp; first | done | with_reducible rfl
                try simp only [Act.put, List.setIfInBounds_toArray, List.set_cons_zero, List.set_cons_succ]
                refine wpAnyH_take (i := 3) (oi := { dst := some 128, op := Op.move (Operand.tmp 8), type := 26, pos := "law.go:137", after := #[{ on := 2, ground := Ground.guard }], guard := some (2, false) }) (v := ?_) rfl (by kernel_rfl) (by kernel_rfl) (by kernel_rfl) (fun _ _ _ h => h) (Or.inl ⟨by rfl, ?_⟩) hHeld ?_
                rotate_left
                · intro w hSw; (try dsimp only at hSw); go_simp; first | done | with_reducible rfl
                try simp only [Act.put, List.setIfInBounds_toArray, List.set_cons_zero, List.set_cons_succ]
                refine wpAnyH_take (i := 5) (oi := { dst := some 130, op := Op.move (Operand.tmp 9), type := 28, pos := "law.go:137", after := #[{ on := 2, ground := Ground.guard }], guard := some (2, false) }) (v := ?_) rfl (by kernel_rfl) (by kernel_rfl) (by kernel_rfl) (fun _ _ _ h => h) (Or.inl ⟨by rfl, ?_⟩) hHeld ?_
                rotate_left
                · intro w hSw; (try dsimp only at hSw); go_simp; first | done | with_reducible rfl
                try simp only [Act.put, List.setIfInBounds_toArray, List.set_cons_zero, List.set_cons_succ]
                refine wpAnyH_take (i := 6) (oi := { dst := some 131, op := Op.nilCheck (Operand.tmp 130), type := 0, pos := "law.go:137", after := #[{ on := 5, ground := Ground.data }, { on := 2, ground := Ground.guard }], guard := some (2, false) }) (v := ?_) rfl (by kernel_rfl) (by kernel_rfl) (by kernel_rfl) (fun _ _ _ h => h) (Or.inl ⟨by rfl, ?_⟩) hHeld ?_
                rotate_left
                · intro w hSw; (try dsimp only at hSw); go_simp; first | done | with_reducible rfl
                try simp only [Act.put, List.setIfInBounds_toArray, List.set_cons_zero, List.set_cons_succ]
                refine wpAnyH_take (i := 7) (oi := { dst := some 132, op := Op.fieldAddr 30 (Operand.tmp 131) 0, type := 0, pos := "law.go:137", after := #[{ on := 6, ground := Ground.data }, { on := 2, ground := Ground.guard }], guard := some (2, false) }) (v := ?_) rfl (by kernel_rfl) (by kernel_rfl) (by kernel_rfl) (fun _ _ _ h => h) (Or.inl ⟨by rfl, ?_⟩) hHeld ?_
                rotate_left
                · intro w hSw; (try dsimp only at hSw); go_simp; first | done | with_reducible rfl
                try simp only [Act.put, List.setIfInBounds_toArray, List.set_cons_zero, List.set_cons_succ]
                refine wpAnyH_take (i := 8) (oi := { dst := some 133, op := Op.load 22 (Operand.tmp 132), type := 22, pos := "law.go:137", after := #[{ on := 7, ground := Ground.data }, { on := 2, ground := Ground.guard }], guard := some (2, false) }) (v := ?_) rfl (by kernel_rfl) (by kernel_rfl) (by kernel_rfl) (fun _ _ _ h => h) (Or.inl ⟨by rfl, ?_⟩) hHeld ?_
                rotate_left
                · intro w hSw; (try dsimp only at hSw); have c8 := hSw.1; go_simp; first | done | with_reducible rfl
                try simp only [Act.put, List.setIfInBounds_toArray, List.set_cons_zero, List.set_cons_succ]
                refine wpAnyH_take (i := 9) (oi := { dst := some 134, op := Op.call { callee := Callee.builtin Builtin.len, args := #[Operand.tmp 133], argTypes := #[22] }, type := 3, pos := "law.go:137", after := #[{ on := 8, ground := Ground.data }, { on := 2, ground := Ground.guard }], guard := some (2, false) }) (v := ?_) rfl (by kernel_rfl) (by kernel_rfl) (by kernel_rfl) (fun _ _ _ h => h) (Or.inl ⟨by rfl, ?_⟩) hHeld ?_
                rotate_left
                · intro w hSw; (try dsimp only at hSw); go_simp; first | done | with_reducible rfl
                try simp only [Act.put, List.setIfInBounds_toArray, List.set_cons_zero, List.set_cons_succ]
                refine wpAnyH_ready (rs := [4]) (by kernel_rfl) (by simp) ?_
                refine AllReadyH.cons (o := { dst := some 129, op := Op.call { callee := Callee.value (Operand.func 25), args := #[Operand.tmp 128], argTypes := #[26] }, type := 3, pos := "law.go:137", after := #[{ on := 3, ground := Ground.data }, { on := 2, ground := Ground.chain }, { on := 2, ground := Ground.guard }], guard := some (2, false) }) rfl (fun K hK => ?_) AllReadyH.nil
                clear hHeld
                go_simp
                refine HLF.out.mono ?_
                rintro e z1 ⟨rfl, rfl⟩
                refine hK.out _ _ (HD.out) (fun hHeld => ?_)
                clear hK K
                try simp only [Act.put, List.setIfInBounds_toArray, List.set_cons_zero, List.set_cons_succ]
                refine wpAnyH_take (i := 10) (oi := { dst := some 135, op := Op.binOp BinOp.neq 3 (Operand.tmp 129) (Operand.tmp 134) 3, type := 4, pos := "law.go:137", after := #[{ on := 4, ground := Ground.data }, { on := 9, ground := Ground.data }, { on := 2, ground := Ground.guard }], guard := some (2, false) }) (v := ?_) rfl (by kernel_rfl) (by kernel_rfl) (by kernel_rfl) (fun _ _ _ h => h) (Or.inl ⟨by rfl, ?_⟩) hHeld ?_
                rotate_left
                · intro w hSw; (try dsimp only at hSw); go_simp; first | done | with_reducible rfl
                try simp only [Act.put, List.setIfInBounds_toArray, List.set_cons_zero, List.set_cons_succ]
                refine wpAnyH_take (i := 11) (oi := { dst := some 136, op := Op.pick (Operand.tmp 127) (Operand.const (Value.bool true)) (Operand.tmp 135), type := 4, pos := "law.go:137", after := #[{ on := 2, ground := Ground.data }, { on := 10, ground := Ground.data }], guard := none }) (v := ?_) rfl (by kernel_rfl) (by kernel_rfl) (by kernel_rfl) (fun _ _ _ h => h) (Or.inl ⟨by rfl, ?_⟩) hHeld ?_
                rotate_left
                · intro w hSw; (try dsimp only at hSw); go_simp; first | done | with_reducible rfl
                try simp only [Act.put, List.setIfInBounds_toArray, List.set_cons_zero, List.set_cons_succ]
                refine wpAnyH_take (i := 12) (oi := { dst := some 137, op := Op.move (Operand.tmp 136), type := 4, pos := "law.go:137", after := #[{ on := 11, ground := Ground.data }, { on := 4, ground := Ground.chain }], guard := none }) (v := ?_) rfl (by kernel_rfl) (by kernel_rfl) (by kernel_rfl) (fun _ _ _ h => h) (Or.inl ⟨by rfl, ?_⟩) hHeld ?_
                rotate_left
                · intro w hSw; (try dsimp only at hSw); go_simp; first | done | with_reducible rfl
                try simp only [Act.put, List.setIfInBounds_toArray, List.set_cons_zero, List.set_cons_succ]
                refine wpAnyH_take (i := 13) (oi := { dst := some 138, op := Op.move (Operand.tmp 8), type := 26, pos := "law.go:137", after := #[{ on := 12, ground := Ground.guard }], guard := some (12, false) }) (v := ?_) rfl (by kernel_rfl) (by kernel_rfl) (by kernel_rfl) (fun _ _ _ h => h) (Or.inl ⟨by rfl, ?_⟩) hHeld ?_
                rotate_left
                · intro w hSw; (try dsimp only at hSw); go_simp; first | done | with_reducible rfl
                try simp only [Act.put, List.setIfInBounds_toArray, List.set_cons_zero, List.set_cons_succ]
                refine wpAnyH_take (i := 16) (oi := { dst := some 141, op := Op.move (Operand.tmp 9), type := 28, pos := "law.go:137", after := #[{ on := 12, ground := Ground.guard }], guard := some (12, false) }) (v := ?_) rfl (by kernel_rfl) (by kernel_rfl) (by kernel_rfl) (fun _ _ _ h => h) (Or.inl ⟨by rfl, ?_⟩) hHeld ?_
                rotate_left
                · intro w hSw; (try dsimp only at hSw); go_simp; first | done | with_reducible rfl
                try simp only [Act.put, List.setIfInBounds_toArray, List.set_cons_zero, List.set_cons_succ]
                refine wpAnyH_take (i := 17) (oi := { dst := some 142, op := Op.nilCheck (Operand.tmp 141), type := 0, pos := "law.go:137", after := #[{ on := 16, ground := Ground.data }, { on := 12, ground := Ground.guard }], guard := some (12, false) }) (v := ?_) rfl (by kernel_rfl) (by kernel_rfl) (by kernel_rfl) (fun _ _ _ h => h) (Or.inl ⟨by rfl, ?_⟩) hHeld ?_
                rotate_left
                · intro w hSw; (try dsimp only at hSw); go_simp; first | done | with_reducible rfl
                try simp only [Act.put, List.setIfInBounds_toArray, List.set_cons_zero, List.set_cons_succ]
                refine wpAnyH_take (i := 18) (oi := { dst := some 143, op := Op.fieldAddr 30 (Operand.tmp 142) 1, type := 0, pos := "law.go:137", after := #[{ on := 17, ground := Ground.data }, { on := 12, ground := Ground.guard }], guard := some (12, false) }) (v := ?_) rfl (by kernel_rfl) (by kernel_rfl) (by kernel_rfl) (fun _ _ _ h => h) (Or.inl ⟨by rfl, ?_⟩) hHeld ?_
                rotate_left
                · intro w hSw; (try dsimp only at hSw); go_simp; first | done | with_reducible rfl
                try simp only [Act.put, List.setIfInBounds_toArray, List.set_cons_zero, List.set_cons_succ]
                refine wpAnyH_take (i := 19) (oi := { dst := some 144, op := Op.load 4 (Operand.tmp 143), type := 4, pos := "law.go:137", after := #[{ on := 18, ground := Ground.data }, { on := 12, ground := Ground.guard }], guard := some (12, false) }) (v := ?_) rfl (by kernel_rfl) (by kernel_rfl) (by kernel_rfl) (fun _ _ _ h => h) (Or.inl ⟨by rfl, ?_⟩) hHeld ?_
                rotate_left
                · intro w hSw; (try dsimp only at hSw); have c19 := hSw.2; go_simp; first | done | with_reducible rfl
                try simp only [Act.put, List.setIfInBounds_toArray, List.set_cons_zero, List.set_cons_succ]
                refine wpAnyH_ready (rs := [14]) (by kernel_rfl) (by simp) ?_
                refine AllReadyH.cons (o := { dst := some 139, op := Op.call { callee := Callee.value (Operand.func 26), args := #[Operand.tmp 138], argTypes := #[26] }, type := 42, pos := "law.go:137", after := #[{ on := 13, ground := Ground.data }, { on := 12, ground := Ground.chain }, { on := 12, ground := Ground.guard }], guard := some (12, false) }) rfl (fun K hK => ?_) AllReadyH.nil
                clear hHeld
                go_simp
                refine HER.out.mono ?_
                rintro e z2 ⟨rfl, rfl⟩
                refine hK.out _ _ (HD.out) (fun hHeld => ?_)
                clear hK K
                try simp only [Act.put, List.setIfInBounds_toArray, List.set_cons_zero, List.set_cons_succ]
                refine wpAnyH_take (i := 15) (oi := { dst := some 140, op := Op.binOp BinOp.neq 42 (Operand.tmp 139) (Operand.const (Value.int IntKind.i64 0)) 42, type := 4, pos := "law.go:137", after := #[{ on := 14, ground := Ground.data }, { on := 12, ground := Ground.guard }], guard := some (12, false) }) (v := ?_) rfl (by kernel_rfl) (by kernel_rfl) (by kernel_rfl) (fun _ _ _ h => h) (Or.inl ⟨by rfl, ?_⟩) hHeld ?_
                rotate_left
                · intro w hSw; (try dsimp only at hSw); go_simp; first | done | with_reducible rfl
                try simp only [Act.put, List.setIfInBounds_toArray, List.set_cons_zero, List.set_cons_succ]
                refine wpAnyH_take (i := 20) (oi := { dst := some 145, op := Op.binOp BinOp.neq 4 (Operand.tmp 140) (Operand.tmp 144) 4, type := 4, pos := "law.go:137", after := #[{ on := 15, ground := Ground.data }, { on := 19, ground := Ground.data }, { on := 12, ground := Ground.guard }], guard := some (12, false) }) (v := ?_) rfl (by kernel_rfl) (by kernel_rfl) (by kernel_rfl) (fun _ _ _ h => h) (Or.inl ⟨by rfl, ?_⟩) hHeld ?_
                rotate_left
                · intro w hSw; (try dsimp only at hSw); go_simp; first | done | with_reducible rfl
                try simp only [Act.put, List.setIfInBounds_toArray, List.set_cons_zero, List.set_cons_succ]
                refine wpAnyH_take (i := 21) (oi := { dst := some 146, op := Op.pick (Operand.tmp 137) (Operand.const (Value.bool true)) (Operand.tmp 145), type := 4, pos := "law.go:137", after := #[{ on := 12, ground := Ground.data }, { on := 20, ground := Ground.data }], guard := none }) (v := ?_) rfl (by kernel_rfl) (by kernel_rfl) (by kernel_rfl) (fun _ _ _ h => h) (Or.inl ⟨by rfl, ?_⟩) hHeld ?_
                rotate_left
                · intro w hSw; (try dsimp only at hSw); go_simp; first | done | with_reducible rfl
                try simp only [Act.put, List.setIfInBounds_toArray, List.set_cons_zero, List.set_cons_succ]
                refine wpAnyH_done (by kernel_rfl) ?_ _
                clear hHeld
                go_wp2_with fail
                go_roundw
                case rel => exact ⟨k + 1, by omega, by go_num, bs2, true, F', G2, HRd, HMd, HFGz, HBd, HXz, HLz⟩
                case measure => simp [intOf]; omega
              | false =>
                have HRd := hide (show Rd tz.drew w.heap.size F' g bs2 false from HRz.out.keep (Keep.drew (fun _ => False) tz) (fun _ _ => id))
                have HMd := hide (show RdM tz.drew w.heap.size G2 gm bs2 false from HMz.out.keep (Keep.drew (fun _ => False) tz) (fun _ _ => id))
                have HBd := hide (show Below w.heap.size w tz.drew from HBz.out.drew)
                obtain ⟨am, cm, _, _, _, d0, d1, _, _⟩ := HMd.out.cells
                have HD := hide (And.intro d0 d1)
                clear d0 d1
                have HLF := hide (left_any tz.drew _ _ _ _ _ HRd.out)
                have HER := hide (err_any tz.drew _ _ _ _ _ HRd.out)
                rw [show errOf false = 0 from rfl] at HER
                obtain ⟨lz, hlz⟩ : ∃ lz, bs2.length = lz := ⟨_, rfl⟩
                rw [hlz] at HD HLF
                clear hlz
                go_wp2_with fail
                refine wp_region_held_drew (S := fun w' => w'.cell? ⟨gm, 0, none⟩ = some (.slice am lz cm) ∧ w'.cell? ⟨gm, 1, none⟩ = some (.bool false)) (by kernel_rfl) HD.out (fun hHeld => ?_)
                refine wpAnyH_take (i := 0) (oi := { dst := some 125, op := Op.move (Operand.tmp 13), type := 4, pos := "law.go:137", after := #[], guard := none }) (v := ?_) rfl (by kernel_rfl) (by kernel_rfl) (by kernel_rfl) (fun _ _ _ h => h) (Or.inl ⟨by rfl, ?_⟩) hHeld ?_
                rotate_left
                · intro w hSw; (try dsimp only at hSw); go_simp; first | done | with_reducible rfl
                try simp only [Act.put, List.setIfInBounds_toArray, List.set_cons_zero, List.set_cons_succ]
                refine wpAnyH_take (i := 1) (oi := { dst := some 126, op := Op.unOp UnOp.not 4 (Operand.tmp 125), type := 4, pos := "law.go:137", after := #[{ on := 0, ground := Ground.data }], guard := none }) (v := ?_) rfl (by kernel_rfl) (by kernel_rfl) (by kernel_rfl) (fun _ _ _ h => h) (Or.inl ⟨by rfl, ?_⟩) hHeld ?_
                rotate_left
                · intro w hSw; (try dsimp only at hSw); go_simp; first | done | with_reducible rfl
                try simp only [Act.put, List.setIfInBounds_toArray, List.set_cons_zero, List.set_cons_succ]
                refine wpAnyH_take (i := 2) (oi := { dst := some 127, op := Op.move (Operand.tmp 126), type := 4, pos := "law.go:137", after := #[{ on := 1, ground := Ground.data }], guard := none }) (v := ?_) rfl (by kernel_rfl) (by kernel_rfl) (by kernel_rfl) (fun _ _ _ h => h) (Or.inl ⟨by rfl, ?_⟩) hHeld ?_
                rotate_left
                · intro w hSw; (try dsimp only at hSw); go_simp; first | done | with_reducible rfl
                try simp only [Act.put, List.setIfInBounds_toArray, List.set_cons_zero, List.set_cons_succ]
                refine wpAnyH_take (i := 3) (oi := { dst := some 128, op := Op.move (Operand.tmp 8), type := 26, pos := "law.go:137", after := #[{ on := 2, ground := Ground.guard }], guard := some (2, false) }) (v := ?_) rfl (by kernel_rfl) (by kernel_rfl) (by kernel_rfl) (fun _ _ _ h => h) (Or.inl ⟨by rfl, ?_⟩) hHeld ?_
                rotate_left
                · intro w hSw; (try dsimp only at hSw); go_simp; first | done | with_reducible rfl
                try simp only [Act.put, List.setIfInBounds_toArray, List.set_cons_zero, List.set_cons_succ]
                refine wpAnyH_take (i := 5) (oi := { dst := some 130, op := Op.move (Operand.tmp 9), type := 28, pos := "law.go:137", after := #[{ on := 2, ground := Ground.guard }], guard := some (2, false) }) (v := ?_) rfl (by kernel_rfl) (by kernel_rfl) (by kernel_rfl) (fun _ _ _ h => h) (Or.inl ⟨by rfl, ?_⟩) hHeld ?_
                rotate_left
                · intro w hSw; (try dsimp only at hSw); go_simp; first | done | with_reducible rfl
                try simp only [Act.put, List.setIfInBounds_toArray, List.set_cons_zero, List.set_cons_succ]
                refine wpAnyH_take (i := 6) (oi := { dst := some 131, op := Op.nilCheck (Operand.tmp 130), type := 0, pos := "law.go:137", after := #[{ on := 5, ground := Ground.data }, { on := 2, ground := Ground.guard }], guard := some (2, false) }) (v := ?_) rfl (by kernel_rfl) (by kernel_rfl) (by kernel_rfl) (fun _ _ _ h => h) (Or.inl ⟨by rfl, ?_⟩) hHeld ?_
                rotate_left
                · intro w hSw; (try dsimp only at hSw); go_simp; first | done | with_reducible rfl
                try simp only [Act.put, List.setIfInBounds_toArray, List.set_cons_zero, List.set_cons_succ]
                refine wpAnyH_take (i := 7) (oi := { dst := some 132, op := Op.fieldAddr 30 (Operand.tmp 131) 0, type := 0, pos := "law.go:137", after := #[{ on := 6, ground := Ground.data }, { on := 2, ground := Ground.guard }], guard := some (2, false) }) (v := ?_) rfl (by kernel_rfl) (by kernel_rfl) (by kernel_rfl) (fun _ _ _ h => h) (Or.inl ⟨by rfl, ?_⟩) hHeld ?_
                rotate_left
                · intro w hSw; (try dsimp only at hSw); go_simp; first | done | with_reducible rfl
                try simp only [Act.put, List.setIfInBounds_toArray, List.set_cons_zero, List.set_cons_succ]
                refine wpAnyH_take (i := 8) (oi := { dst := some 133, op := Op.load 22 (Operand.tmp 132), type := 22, pos := "law.go:137", after := #[{ on := 7, ground := Ground.data }, { on := 2, ground := Ground.guard }], guard := some (2, false) }) (v := ?_) rfl (by kernel_rfl) (by kernel_rfl) (by kernel_rfl) (fun _ _ _ h => h) (Or.inl ⟨by rfl, ?_⟩) hHeld ?_
                rotate_left
                · intro w hSw; (try dsimp only at hSw); have c8 := hSw.1; go_simp; first | done | with_reducible rfl
                try simp only [Act.put, List.setIfInBounds_toArray, List.set_cons_zero, List.set_cons_succ]
                refine wpAnyH_take (i := 9) (oi := { dst := some 134, op := Op.call { callee := Callee.builtin Builtin.len, args := #[Operand.tmp 133], argTypes := #[22] }, type := 3, pos := "law.go:137", after := #[{ on := 8, ground := Ground.data }, { on := 2, ground := Ground.guard }], guard := some (2, false) }) (v := ?_) rfl (by kernel_rfl) (by kernel_rfl) (by kernel_rfl) (fun _ _ _ h => h) (Or.inl ⟨by rfl, ?_⟩) hHeld ?_
                rotate_left
                · intro w hSw; (try dsimp only at hSw); go_simp; first | done | with_reducible rfl
                try simp only [Act.put, List.setIfInBounds_toArray, List.set_cons_zero, List.set_cons_succ]
                refine wpAnyH_ready (rs := [4]) (by kernel_rfl) (by simp) ?_
                refine AllReadyH.cons (o := { dst := some 129, op := Op.call { callee := Callee.value (Operand.func 25), args := #[Operand.tmp 128], argTypes := #[26] }, type := 3, pos := "law.go:137", after := #[{ on := 3, ground := Ground.data }, { on := 2, ground := Ground.chain }, { on := 2, ground := Ground.guard }], guard := some (2, false) }) rfl (fun K hK => ?_) AllReadyH.nil
                clear hHeld
                go_simp
                refine HLF.out.mono ?_
                rintro e z1 ⟨rfl, rfl⟩
                refine hK.out _ _ (HD.out) (fun hHeld => ?_)
                clear hK K
                try simp only [Act.put, List.setIfInBounds_toArray, List.set_cons_zero, List.set_cons_succ]
                refine wpAnyH_take (i := 10) (oi := { dst := some 135, op := Op.binOp BinOp.neq 3 (Operand.tmp 129) (Operand.tmp 134) 3, type := 4, pos := "law.go:137", after := #[{ on := 4, ground := Ground.data }, { on := 9, ground := Ground.data }, { on := 2, ground := Ground.guard }], guard := some (2, false) }) (v := ?_) rfl (by kernel_rfl) (by kernel_rfl) (by kernel_rfl) (fun _ _ _ h => h) (Or.inl ⟨by rfl, ?_⟩) hHeld ?_
                rotate_left
                · intro w hSw; (try dsimp only at hSw); go_simp; first | done | with_reducible rfl
                try simp only [Act.put, List.setIfInBounds_toArray, List.set_cons_zero, List.set_cons_succ]
                refine wpAnyH_take (i := 11) (oi := { dst := some 136, op := Op.pick (Operand.tmp 127) (Operand.const (Value.bool true)) (Operand.tmp 135), type := 4, pos := "law.go:137", after := #[{ on := 2, ground := Ground.data }, { on := 10, ground := Ground.data }], guard := none }) (v := ?_) rfl (by kernel_rfl) (by kernel_rfl) (by kernel_rfl) (fun _ _ _ h => h) (Or.inl ⟨by rfl, ?_⟩) hHeld ?_
                rotate_left
                · intro w hSw; (try dsimp only at hSw); go_simp; first | done | with_reducible rfl
                try simp only [Act.put, List.setIfInBounds_toArray, List.set_cons_zero, List.set_cons_succ]
                refine wpAnyH_take (i := 12) (oi := { dst := some 137, op := Op.move (Operand.tmp 136), type := 4, pos := "law.go:137", after := #[{ on := 11, ground := Ground.data }, { on := 4, ground := Ground.chain }], guard := none }) (v := ?_) rfl (by kernel_rfl) (by kernel_rfl) (by kernel_rfl) (fun _ _ _ h => h) (Or.inl ⟨by rfl, ?_⟩) hHeld ?_
                rotate_left
                · intro w hSw; (try dsimp only at hSw); go_simp; first | done | with_reducible rfl
                try simp only [Act.put, List.setIfInBounds_toArray, List.set_cons_zero, List.set_cons_succ]
                refine wpAnyH_take (i := 13) (oi := { dst := some 138, op := Op.move (Operand.tmp 8), type := 26, pos := "law.go:137", after := #[{ on := 12, ground := Ground.guard }], guard := some (12, false) }) (v := ?_) rfl (by kernel_rfl) (by kernel_rfl) (by kernel_rfl) (fun _ _ _ h => h) (Or.inl ⟨by rfl, ?_⟩) hHeld ?_
                rotate_left
                · intro w hSw; (try dsimp only at hSw); go_simp; first | done | with_reducible rfl
                try simp only [Act.put, List.setIfInBounds_toArray, List.set_cons_zero, List.set_cons_succ]
                refine wpAnyH_take (i := 16) (oi := { dst := some 141, op := Op.move (Operand.tmp 9), type := 28, pos := "law.go:137", after := #[{ on := 12, ground := Ground.guard }], guard := some (12, false) }) (v := ?_) rfl (by kernel_rfl) (by kernel_rfl) (by kernel_rfl) (fun _ _ _ h => h) (Or.inl ⟨by rfl, ?_⟩) hHeld ?_
                rotate_left
                · intro w hSw; (try dsimp only at hSw); go_simp; first | done | with_reducible rfl
                try simp only [Act.put, List.setIfInBounds_toArray, List.set_cons_zero, List.set_cons_succ]
                refine wpAnyH_take (i := 17) (oi := { dst := some 142, op := Op.nilCheck (Operand.tmp 141), type := 0, pos := "law.go:137", after := #[{ on := 16, ground := Ground.data }, { on := 12, ground := Ground.guard }], guard := some (12, false) }) (v := ?_) rfl (by kernel_rfl) (by kernel_rfl) (by kernel_rfl) (fun _ _ _ h => h) (Or.inl ⟨by rfl, ?_⟩) hHeld ?_
                rotate_left
                · intro w hSw; (try dsimp only at hSw); go_simp; first | done | with_reducible rfl
                try simp only [Act.put, List.setIfInBounds_toArray, List.set_cons_zero, List.set_cons_succ]
                refine wpAnyH_take (i := 18) (oi := { dst := some 143, op := Op.fieldAddr 30 (Operand.tmp 142) 1, type := 0, pos := "law.go:137", after := #[{ on := 17, ground := Ground.data }, { on := 12, ground := Ground.guard }], guard := some (12, false) }) (v := ?_) rfl (by kernel_rfl) (by kernel_rfl) (by kernel_rfl) (fun _ _ _ h => h) (Or.inl ⟨by rfl, ?_⟩) hHeld ?_
                rotate_left
                · intro w hSw; (try dsimp only at hSw); go_simp; first | done | with_reducible rfl
                try simp only [Act.put, List.setIfInBounds_toArray, List.set_cons_zero, List.set_cons_succ]
                refine wpAnyH_take (i := 19) (oi := { dst := some 144, op := Op.load 4 (Operand.tmp 143), type := 4, pos := "law.go:137", after := #[{ on := 18, ground := Ground.data }, { on := 12, ground := Ground.guard }], guard := some (12, false) }) (v := ?_) rfl (by kernel_rfl) (by kernel_rfl) (by kernel_rfl) (fun _ _ _ h => h) (Or.inl ⟨by rfl, ?_⟩) hHeld ?_
                rotate_left
                · intro w hSw; (try dsimp only at hSw); have c19 := hSw.2; go_simp; first | done | with_reducible rfl
                try simp only [Act.put, List.setIfInBounds_toArray, List.set_cons_zero, List.set_cons_succ]
                refine wpAnyH_ready (rs := [14]) (by kernel_rfl) (by simp) ?_
                refine AllReadyH.cons (o := { dst := some 139, op := Op.call { callee := Callee.value (Operand.func 26), args := #[Operand.tmp 138], argTypes := #[26] }, type := 42, pos := "law.go:137", after := #[{ on := 13, ground := Ground.data }, { on := 12, ground := Ground.chain }, { on := 12, ground := Ground.guard }], guard := some (12, false) }) rfl (fun K hK => ?_) AllReadyH.nil
                clear hHeld
                go_simp
                refine HER.out.mono ?_
                rintro e z2 ⟨rfl, rfl⟩
                refine hK.out _ _ (HD.out) (fun hHeld => ?_)
                clear hK K
                try simp only [Act.put, List.setIfInBounds_toArray, List.set_cons_zero, List.set_cons_succ]
                refine wpAnyH_take (i := 15) (oi := { dst := some 140, op := Op.binOp BinOp.neq 42 (Operand.tmp 139) (Operand.const (Value.int IntKind.i64 0)) 42, type := 4, pos := "law.go:137", after := #[{ on := 14, ground := Ground.data }, { on := 12, ground := Ground.guard }], guard := some (12, false) }) (v := ?_) rfl (by kernel_rfl) (by kernel_rfl) (by kernel_rfl) (fun _ _ _ h => h) (Or.inl ⟨by rfl, ?_⟩) hHeld ?_
                rotate_left
                · intro w hSw; (try dsimp only at hSw); go_simp; first | done | with_reducible rfl
                try simp only [Act.put, List.setIfInBounds_toArray, List.set_cons_zero, List.set_cons_succ]
                refine wpAnyH_take (i := 20) (oi := { dst := some 145, op := Op.binOp BinOp.neq 4 (Operand.tmp 140) (Operand.tmp 144) 4, type := 4, pos := "law.go:137", after := #[{ on := 15, ground := Ground.data }, { on := 19, ground := Ground.data }, { on := 12, ground := Ground.guard }], guard := some (12, false) }) (v := ?_) rfl (by kernel_rfl) (by kernel_rfl) (by kernel_rfl) (fun _ _ _ h => h) (Or.inl ⟨by rfl, ?_⟩) hHeld ?_
                rotate_left
                · intro w hSw; (try dsimp only at hSw); go_simp; first | done | with_reducible rfl
                try simp only [Act.put, List.setIfInBounds_toArray, List.set_cons_zero, List.set_cons_succ]
                refine wpAnyH_take (i := 21) (oi := { dst := some 146, op := Op.pick (Operand.tmp 137) (Operand.const (Value.bool true)) (Operand.tmp 145), type := 4, pos := "law.go:137", after := #[{ on := 12, ground := Ground.data }, { on := 20, ground := Ground.data }], guard := none }) (v := ?_) rfl (by kernel_rfl) (by kernel_rfl) (by kernel_rfl) (fun _ _ _ h => h) (Or.inl ⟨by rfl, ?_⟩) hHeld ?_
                rotate_left
                · intro w hSw; (try dsimp only at hSw); go_simp; first | done | with_reducible rfl
                try simp only [Act.put, List.setIfInBounds_toArray, List.set_cons_zero, List.set_cons_succ]
                refine wpAnyH_done (by kernel_rfl) ?_ _
                clear hHeld
                go_wp2_with fail
                go_roundw
                case rel => exact ⟨k + 1, by omega, by go_num, bs2, false, F', G2, HRd, HMd, HFGz, HBd, HXz, HLz⟩
                case measure => simp [intOf]; omega
          have c1 : t1.cell? ⟨gf, 1, none⟩ = some (.int .i64 f.most) := (cell_of_row t1 gf 1 _ _ _ HROW.out).trans rfl
          have HA := hide (rr_all f.most t1 w.heap.size F' g bs st HR1.out (by have := HBL.out; omega))
          obtain ⟨jd, hjd⟩ := stp_drop st (cutRS f.most bs) bs (cutR_drop f.most bs)
          obtain ⟨bs2, hbs2⟩ : ∃ bs2, (stp st (cutRS f.most bs) bs).1 = bs2 := ⟨_, rfl⟩
          obtain ⟨st2, hst2⟩ : ∃ st2, (stp st (cutRS f.most bs) bs).2 = st2 := ⟨_, rfl⟩
          have HMM := hide (fun (t2 : World) (h : RdM t2 w.heap.size G' gm bs st) => mr_all f.most t2 w.heap.size G' gm bs st h (by have := HBL.out; omega))
          unfold AllR at HA
          unfold AllM at HMM
          rw [hbs2] at hjd
          simp only [hbs2, hst2] at HA HMM
          have HXz : Hid (∀ x ∈ bs2, 0 ≤ x ∧ x < 256) := hide (fun x hx => HXR.out x (by rw [hjd] at hx; exact List.mem_of_mem_drop hx))
          have HLz : Tuck (bs2.length ≤ 20000) := tuck (by rw [hjd, List.length_drop]; have := HBL.out; omega)
          have hvl : (vR st f.most bs).length ≤ 20000 := by
            unfold vR
            split
            · simp
            · rw [List.length_take]; have := HBL.out; omega
          generalize vR st f.most bs = vv at HA HMM hvl
          clear hbs2 hst2 hjd
          go_wp2_with fail
          refine HA.out.mono ?_
          rintro e t2 ⟨v, rfl, hv, hK, hR2⟩
          have HROWd := hide (show t2.drew.heap[gf]? = some (.cells f.cells.toArray 33 (0, 0)) from (hK.block gf HSu.out HFF.out.1).trans HROW.out)
          have HR2 := hide (show Rd t2.drew w.heap.size F' g bs2 st2 from hR2.keep (Keep.drew (fun _ => False) t2) (fun _ _ => id))
          have HM2 := hide (show RdM t2.drew w.heap.size G' gm bs st from (HM1.out.keep hK (fun j a b => HFG.out j b a)).keep (Keep.drew (fun _ => False) t2) (fun _ _ => id))
          have HB2 := hide (show Below w.heap.size w t2.drew from (hK.through HB1.out (fun j h => (HR1.out.ge j h).1) HB1.out.size).drew)
          have HX2 := hide (show Row t2.drew (t1.heap.size + 1) v vv from hv)
          obtain ⟨ax, cx, hvx⟩ := hv.slAt.len
          subst hvx
          obtain ⟨lx2, hlx2⟩ : ∃ lx2, lx2 = vv.length := ⟨_, rfl⟩
          have HLX2 := tuck hlx2
          rw [← hlx2] at HX2 hv ⊢
          have HXd := hide HX2.out.slAt
          have HXO : Hid (∀ k, (Value.slice ax lx2 cx).ownBlock = some k → ¬ F' k ∧ ¬ G' k ∧ w.heap.size ≤ k) := hide (fun k a => by
            have h1 := HX2.out.ge a
            have h2 := HB1.out.size
            exact ⟨fun hf => by have := (HR1.out.ge k hf).2; omega, fun hf => by have := (HM1.out.ge k hf).2; omega, by omega⟩)
          have HMM2 := hide (HMM.out t2.drew HM2.out)
          rw [← hlx2] at hvl
          clear hK hR2 hv HA HMM HR1 HM1 HB1 hlx2 HROW
          go_wp2_with fail
          refine wp_region_held_drew (S := fun w' => w'.heap[gf]? = some (.cells f.cells.toArray 33 (0, 0)) ∧ SlAt w' (.slice ax lx2 cx) vv) (by kernel_rfl) ⟨HROWd.out, HXd.out⟩ (fun hHeld => ?_)
          refine wpAnyH_take (i := 0) (oi := { dst := some 63, op := Op.move (Operand.tmp 14), type := 22, pos := "law.go:128", after := #[], guard := none }) (v := ?_) rfl (by kernel_rfl) (by kernel_rfl) (by kernel_rfl) (fun _ _ _ h => h) (Or.inl ⟨by rfl, ?_⟩) hHeld ?_
          rotate_left
          · intro w hSw; (try dsimp only at hSw); go_simp; first | done | with_reducible rfl
          try simp only [Act.put, List.setIfInBounds_toArray, List.set_cons_zero, List.set_cons_succ]
          refine wpAnyH_take (i := 1) (oi := { dst := some 64, op := Op.convert 22 9 (Operand.tmp 63), type := 9, pos := "law.go:128", after := #[{ on := 0, ground := Ground.data }], guard := none }) (v := ?_) rfl (by kernel_rfl) (by kernel_rfl) (by kernel_rfl) (fun _ _ _ h => h) (Or.inl ⟨by rfl, ?_⟩) hHeld ?_
          rotate_left
          · intro w hSw; (try dsimp only at hSw); (have hcx := hSw.2.string (P := Tryd.prog) 22 5 9 Tryd.underlying22 Tryd.underlying5 Tryd.underlying9); go_simp; first | done | with_reducible rfl
          try simp only [Act.put, List.setIfInBounds_toArray, List.set_cons_zero, List.set_cons_succ]
          refine wpAnyH_take (i := 2) (oi := { dst := some 65, op := Op.move (Operand.tmp 9), type := 28, pos := "law.go:128", after := #[], guard := none }) (v := ?_) rfl (by kernel_rfl) (by kernel_rfl) (by kernel_rfl) (fun _ _ _ h => h) (Or.inl ⟨by rfl, ?_⟩) hHeld ?_
          rotate_left
          · intro w hSw; (try dsimp only at hSw); go_simp; first | done | with_reducible rfl
          try simp only [Act.put, List.setIfInBounds_toArray, List.set_cons_zero, List.set_cons_succ]
          refine wpAnyH_take (i := 3) (oi := { dst := some 66, op := Op.fieldAddr 33 (Operand.tmp 12) 1, type := 0, pos := "law.go:128", after := #[], guard := none }) (v := ?_) rfl (by kernel_rfl) (by kernel_rfl) (by kernel_rfl) (fun _ _ _ h => h) (Or.inl ⟨by rfl, ?_⟩) hHeld ?_
          rotate_left
          · intro w hSw; (try dsimp only at hSw); go_simp; first | done | with_reducible rfl
          try simp only [Act.put, List.setIfInBounds_toArray, List.set_cons_zero, List.set_cons_succ]
          refine wpAnyH_take (i := 4) (oi := { dst := some 67, op := Op.load 3 (Operand.tmp 66), type := 3, pos := "law.go:128", after := #[{ on := 3, ground := Ground.data }], guard := none }) (v := ?_) rfl (by kernel_rfl) (by kernel_rfl) (by kernel_rfl) (fun _ _ _ h => h) (Or.inl ⟨by rfl, ?_⟩) hHeld ?_
          rotate_left
          · intro w hSw; (try dsimp only at hSw); (have c2 : w.cell? ⟨gf, 1, none⟩ = some (.int .i64 f.most) := (cell_of_row w gf 1 _ _ _ hSw.1).trans rfl); go_simp; first | done | with_reducible rfl
          try simp only [Act.put, List.setIfInBounds_toArray, List.set_cons_zero, List.set_cons_succ]
          refine wpAnyH_ready (rs := [5]) (by kernel_rfl) (by simp) ?_
          refine AllReadyH.cons (o := { dst := some 68, op := Op.call { callee := Callee.value (Operand.func 23), args := #[Operand.tmp 65, Operand.tmp 67], argTypes := #[28, 3] }, type := 22, pos := "law.go:128", after := #[{ on := 2, ground := Ground.data }, { on := 4, ground := Ground.data }], guard := none }) rfl (fun K hK => ?_) AllReadyH.nil
          clear hHeld
          go_simp
          refine HMM2.out.mono ?_
          rintro e t3 ⟨v, rfl, hv, hKM, hM3⟩
          have HROW3 := hide ((hKM.block gf (Array.getElem?_eq_some_iff.1 HROWd.out).1 HFF.out.2).trans HROWd.out)
          have HR3 := hide (HR2.out.keep hKM (fun j a b => HFG.out j a b))
          have HB3 := hide (hKM.through HB2.out (fun j h => (HM2.out.ge j h).1) HB2.out.size)
          have HX3 := hide (HX2.out.keep hKM (fun j a b => (HXO.out j a).2.1 b))
          have HXz2 := hide HX3.out.slAt
          have HFG3 : Hid (∀ k, F' k → ¬ Up G' t2.drew t3 k) := hide (fun k a b => by
            rcases b with b | b
            · exact HFG.out k a b
            · have := (HR2.out.ge k a).2; omega)
          have HXO3 : Hid (∀ k, (Value.slice ax lx2 cx).ownBlock = some k → ¬ F' k ∧ ¬ Up G' t2.drew t3 k ∧ w.heap.size ≤ k) := hide (fun k a => ⟨(HXO.out k a).1, (fun b => by
            rcases b with b | b
            · exact (HXO.out k a).2.1 b
            · have := HX2.out.lt a; omega), (HXO.out k a).2.2⟩)
          have HM3 := hide hM3
          obtain ⟨G2, hG2⟩ : ∃ G2, Up G' t2.drew t3 = G2 := ⟨_, rfl⟩
          rw [hG2] at HFG3 HM3 HXO3
          obtain ⟨am5, cm5, hvv5⟩ := hv.len
          subst hvv5
          have hcm := hv.string (P := Tryd.prog) 22 5 9 Tryd.underlying22 Tryd.underlying5 Tryd.underlying9
          clear hG2 hKM hM3 HMM2 HM2 HB2 HR2 HFG HXO HX2 hv
          dsimp only
          refine hK.out _ _ (⟨HROW3.out, HXz2.out⟩) (fun hHeld => ?_)
          clear hK K
          try simp only [Act.put, List.setIfInBounds_toArray, List.set_cons_zero, List.set_cons_succ]
          refine wpAnyH_ready (rs := [6]) (by kernel_rfl) (by simp) ?_
          refine AllReadyH.cons (o := { dst := some 69, op := Op.convert 22 9 (Operand.tmp 68), type := 9, pos := "law.go:128", after := #[{ on := 5, ground := Ground.data }], guard := none }) rfl (fun K hK => ?_) AllReadyH.nil
          clear hHeld
          go_simp
          refine hK.out _ _ (⟨HROW3.out, HXz2.out⟩) (fun hHeld => ?_)
          clear hK K
          try simp only [Act.put, List.setIfInBounds_toArray, List.set_cons_zero, List.set_cons_succ]
          clear hcm
          refine wpAnyH_take (i := 7) (oi := { dst := some 70, op := Op.binOp BinOp.eql 9 (Operand.tmp 64) (Operand.tmp 69) 9, type := 4, pos := "law.go:128", after := #[{ on := 1, ground := Ground.data }, { on := 6, ground := Ground.data }], guard := none }) (v := ?_) rfl (by kernel_rfl) (by kernel_rfl) (by kernel_rfl) (fun _ _ _ h => h) (Or.inl ⟨by rfl, ?_⟩) hHeld ?_
          rotate_left
          · intro w hSw; (try dsimp only at hSw); go_simp; first | done | with_reducible rfl
          try simp only [Act.put, List.setIfInBounds_toArray, List.set_cons_zero, List.set_cons_succ]
          refine wpAnyH_take (i := 8) (oi := { dst := some 13, op := Op.assign (Operand.tmp 70), type := 4, pos := "law.go:128", after := #[{ on := 7, ground := Ground.data }, { on := 5, ground := Ground.chain }, { on := 0, ground := Ground.phase }, { on := 1, ground := Ground.phase }, { on := 2, ground := Ground.phase }, { on := 3, ground := Ground.phase }, { on := 4, ground := Ground.phase }, { on := 5, ground := Ground.phase }, { on := 6, ground := Ground.phase }, { on := 7, ground := Ground.phase }], guard := none }) (v := ?_) rfl (by kernel_rfl) (by kernel_rfl) (by kernel_rfl) (fun _ _ _ h => h) (Or.inl ⟨by rfl, ?_⟩) hHeld ?_
          rotate_left
          · intro w hSw; (try dsimp only at hSw); go_simp; first | done | with_reducible rfl
          try simp only [Act.put, List.setIfInBounds_toArray, List.set_cons_zero, List.set_cons_succ]
          refine wpAnyH_done (by kernel_rfl) ?_ _
          clear hHeld
          go_wp2_with fail
          go_loopw [15] (fun i wr => ∃ q4 : Nat, q4 ≤ lx2 ∧ i = .int .i64 q4 ∧ ∃ ys : List Int, Tuck (ys.length = lx2) ∧ Hid (Row wr (t1.heap.size + 1) (.slice ax lx2 cx) ys) ∧ Hid (Keep (fun j => (Value.slice ax lx2 cx).ownBlock = some j) t3 wr))
            (fun i _ => lx2 - (intOf i).toNat)
          case atStart => exact ⟨0, by omega, rfl, vv, tuck HLX2.out.symm, HX3, hide (Keep.refl _ _)⟩
          case round =>
            obtain ⟨q4, hq4, rfl, ys, HYL, HRB, HKB⟩ := hrel
            by_cases hlt4 : q4 < lx2
            · obtain ⟨gb, rfl⟩ : ∃ gb, ax = some ⟨gb, 0, none⟩ := by
                rcases HRB.out.own with ⟨e1, e2⟩ | ⟨g, c, e1⟩
                · have := HYL.out; rw [e2] at this; simp at this; omega
                · injection e1 with e1 _ _; exact ⟨g, e1⟩
              have hc : wr.cell? ⟨gb, q4, none⟩ = some (.int .u8 (nth ys q4)) := by
                obtain ⟨ao', cap', hv, _, _, ha⟩ := HRB.out.slAt
                injection hv with x1 x2 x3
                have := (ha _ x1.symm q4 (by rw [HYL.out]; exact hlt4)).2.2
                rw [addr_plain', Nat.zero_add] at this
                exact this
              obtain ⟨y, hy⟩ : ∃ y, nth ys q4 = y := ⟨_, rfl⟩
              rw [hy] at hc
              obtain ⟨z, hz⟩ : ∃ z, IntKind.u8.wrap (y + 1) = z := ⟨_, rfl⟩
              obtain ⟨hrs, hf⟩ := HRB.out.set q4 hlt4 z
              have HRS := hide hrs
              have HKS := hide (HKB.out.trans (Keep.set (F := fun j => (Value.slice (some ⟨gb, 0, none⟩) lx2 cx).ownBlock = some j) wr ⟨gb, q4, none⟩ (.int .u8 z) rfl) (fun _ h => .inl h))
              have HYS : Tuck ((ys.set q4 z).length = lx2) := tuck (by rw [List.length_set, HYL.out])
              clear hrs hy HRB HKB
              go_wp2_with fail
              go_roundw
              case rel => exact ⟨q4 + 1, by omega, by go_num, _, HYS, HRS, HKS⟩
              case measure => simp [intOf]; omega
            · have hq5 : q4 = lx2 := by omega
              subst hq5
              obtain ⟨tz, rfl⟩ : ∃ tz : World, tz = wr := ⟨_, rfl⟩
              have HRz := hide (HR3.out.keep HKB.out (fun j hf he => (HXO3.out j he).1 hf))
              have HMz := hide (HM3.out.keep HKB.out (fun j hf he => (HXO3.out j he).2.1 hf))
              have HBz := hide (HKB.out.through HB3.out (fun j he => (HXO3.out j he).2.2) HB3.out.size)
              have HFGz := HFG3
              clear HRB HKB HR3 HM3 HB3 HXO3 HFG3 HYL hlt4 hq4 HX3 HXz2 HROW3 HROWd HXd
              go_upto_region 30 with (fail)
              try simp only [beq_self_eq_true]
              by_cases hfl : (k : Int) = fl
              · have HFA := hide (fail_any tz _ F' g bs2 st2 HRz.out)
                go_wp2_with fail
                refine HFA.out.mono ?_
                rintro e ty ⟨rfl, hK, hR⟩
                have HMy := hide (HMz.out.keep hK (fun j a b => HFGz.out j b a))
                have HBy := hide (hK.through HBz.out (fun j h => (HRz.out.ge j h).1) HBz.out.size)
                have HSS := hide (HMy.out.stop true)
                have HRy := hide (hR.keep HSS.out.2 (fun j a b => HFGz.out j a b))
                have HBs := hide (HSS.out.2.through HBy.out (fun j h => (HMy.out.ge j h).1) HBy.out.size)
                have HMs := hide HSS.out.1
                obtain ⟨am0, cm0, _, _, _, _, _, _, f1⟩ := HMy.out.cells
                clear hK hR HSS HFA HRz HMz HBz
                go_upto_region 33 with (fail)
                clear f1 HMy HBy
                generalize ty.setCell ⟨gm, 1, none⟩ (.bool true) = tz at HRy HBs HMs ⊢
                have HRz := HRy
                have HMz := HMs
                have HBz := HBs
                clear HRy HMs HBs
                have HRd := hide (show Rd tz.drew w.heap.size F' g bs2 true from HRz.out.keep (Keep.drew (fun _ => False) tz) (fun _ _ => id))
                have HMd := hide (show RdM tz.drew w.heap.size G2 gm bs2 true from HMz.out.keep (Keep.drew (fun _ => False) tz) (fun _ _ => id))
                have HBd := hide (show Below w.heap.size w tz.drew from HBz.out.drew)
                obtain ⟨am, cm, _, _, _, d0, d1, _, _⟩ := HMd.out.cells
                have HD := hide (And.intro d0 d1)
                clear d0 d1
                have HLF := hide (left_any tz.drew _ _ _ _ _ HRd.out)
                have HER := hide (err_any tz.drew _ _ _ _ _ HRd.out)
                rw [show errOf true = 2 from rfl] at HER
                obtain ⟨lz, hlz⟩ : ∃ lz, bs2.length = lz := ⟨_, rfl⟩
                rw [hlz] at HD HLF
                clear hlz
                go_wp2_with fail
                refine wp_region_held_drew (S := fun w' => w'.cell? ⟨gm, 0, none⟩ = some (.slice am lz cm) ∧ w'.cell? ⟨gm, 1, none⟩ = some (.bool true)) (by kernel_rfl) HD.out (fun hHeld => ?_)
                refine wpAnyH_take (i := 0) (oi := { dst := some 125, op := Op.move (Operand.tmp 13), type := 4, pos := "law.go:137", after := #[], guard := none }) (v := ?_) rfl (by kernel_rfl) (by kernel_rfl) (by kernel_rfl) (fun _ _ _ h => h) (Or.inl ⟨by rfl, ?_⟩) hHeld ?_
                rotate_left
                · intro w hSw; (try dsimp only at hSw); go_simp; first | done | with_reducible rfl
                try simp only [Act.put, List.setIfInBounds_toArray, List.set_cons_zero, List.set_cons_succ]
                refine wpAnyH_take (i := 1) (oi := { dst := some 126, op := Op.unOp UnOp.not 4 (Operand.tmp 125), type := 4, pos := "law.go:137", after := #[{ on := 0, ground := Ground.data }], guard := none }) (v := ?_) rfl (by kernel_rfl) (by kernel_rfl) (by kernel_rfl) (fun _ _ _ h => h) (Or.inl ⟨by rfl, ?_⟩) hHeld ?_
                rotate_left
                · intro w hSw; (try dsimp only at hSw); go_simp; first | done | with_reducible rfl
                try simp only [Act.put, List.setIfInBounds_toArray, List.set_cons_zero, List.set_cons_succ]
                refine wpAnyH_take (i := 2) (oi := { dst := some 127, op := Op.move (Operand.tmp 126), type := 4, pos := "law.go:137", after := #[{ on := 1, ground := Ground.data }], guard := none }) (v := ?_) rfl (by kernel_rfl) (by kernel_rfl) (by kernel_rfl) (fun _ _ _ h => h) (Or.inl ⟨by rfl, ?_⟩) hHeld ?_
                rotate_left
                · intro w hSw; (try dsimp only at hSw); go_simp; first | done | with_reducible rfl
                try simp only [Act.put, List.setIfInBounds_toArray, List.set_cons_zero, List.set_cons_succ]
                refine wpAnyH_take (i := 3) (oi := { dst := some 128, op := Op.move (Operand.tmp 8), type := 26, pos := "law.go:137", after := #[{ on := 2, ground := Ground.guard }], guard := some (2, false) }) (v := ?_) rfl (by kernel_rfl) (by kernel_rfl) (by kernel_rfl) (fun _ _ _ h => h) (Or.inl ⟨by rfl, ?_⟩) hHeld ?_
                rotate_left
                · intro w hSw; (try dsimp only at hSw); go_simp; first | done | with_reducible rfl
                try simp only [Act.put, List.setIfInBounds_toArray, List.set_cons_zero, List.set_cons_succ]
                refine wpAnyH_take (i := 5) (oi := { dst := some 130, op := Op.move (Operand.tmp 9), type := 28, pos := "law.go:137", after := #[{ on := 2, ground := Ground.guard }], guard := some (2, false) }) (v := ?_) rfl (by kernel_rfl) (by kernel_rfl) (by kernel_rfl) (fun _ _ _ h => h) (Or.inl ⟨by rfl, ?_⟩) hHeld ?_
                rotate_left
                · intro w hSw; (try dsimp only at hSw); go_simp; first | done | with_reducible rfl
                try simp only [Act.put, List.setIfInBounds_toArray, List.set_cons_zero, List.set_cons_succ]
                refine wpAnyH_take (i := 6) (oi := { dst := some 131, op := Op.nilCheck (Operand.tmp 130), type := 0, pos := "law.go:137", after := #[{ on := 5, ground := Ground.data }, { on := 2, ground := Ground.guard }], guard := some (2, false) }) (v := ?_) rfl (by kernel_rfl) (by kernel_rfl) (by kernel_rfl) (fun _ _ _ h => h) (Or.inl ⟨by rfl, ?_⟩) hHeld ?_
                rotate_left
                · intro w hSw; (try dsimp only at hSw); go_simp; first | done | with_reducible rfl
                try simp only [Act.put, List.setIfInBounds_toArray, List.set_cons_zero, List.set_cons_succ]
                refine wpAnyH_take (i := 7) (oi := { dst := some 132, op := Op.fieldAddr 30 (Operand.tmp 131) 0, type := 0, pos := "law.go:137", after := #[{ on := 6, ground := Ground.data }, { on := 2, ground := Ground.guard }], guard := some (2, false) }) (v := ?_) rfl (by kernel_rfl) (by kernel_rfl) (by kernel_rfl) (fun _ _ _ h => h) (Or.inl ⟨by rfl, ?_⟩) hHeld ?_
                rotate_left
                · intro w hSw; (try dsimp only at hSw); go_simp; first | done | with_reducible rfl
                try simp only [Act.put, List.setIfInBounds_toArray, List.set_cons_zero, List.set_cons_succ]
                refine wpAnyH_take (i := 8) (oi := { dst := some 133, op := Op.load 22 (Operand.tmp 132), type := 22, pos := "law.go:137", after := #[{ on := 7, ground := Ground.data }, { on := 2, ground := Ground.guard }], guard := some (2, false) }) (v := ?_) rfl (by kernel_rfl) (by kernel_rfl) (by kernel_rfl) (fun _ _ _ h => h) (Or.inl ⟨by rfl, ?_⟩) hHeld ?_
                rotate_left
                · intro w hSw; (try dsimp only at hSw); have c8 := hSw.1; go_simp; first | done | with_reducible rfl
                try simp only [Act.put, List.setIfInBounds_toArray, List.set_cons_zero, List.set_cons_succ]
                refine wpAnyH_take (i := 9) (oi := { dst := some 134, op := Op.call { callee := Callee.builtin Builtin.len, args := #[Operand.tmp 133], argTypes := #[22] }, type := 3, pos := "law.go:137", after := #[{ on := 8, ground := Ground.data }, { on := 2, ground := Ground.guard }], guard := some (2, false) }) (v := ?_) rfl (by kernel_rfl) (by kernel_rfl) (by kernel_rfl) (fun _ _ _ h => h) (Or.inl ⟨by rfl, ?_⟩) hHeld ?_
                rotate_left
                · intro w hSw; (try dsimp only at hSw); go_simp; first | done | with_reducible rfl
                try simp only [Act.put, List.setIfInBounds_toArray, List.set_cons_zero, List.set_cons_succ]
                refine wpAnyH_ready (rs := [4]) (by kernel_rfl) (by simp) ?_
                refine AllReadyH.cons (o := { dst := some 129, op := Op.call { callee := Callee.value (Operand.func 25), args := #[Operand.tmp 128], argTypes := #[26] }, type := 3, pos := "law.go:137", after := #[{ on := 3, ground := Ground.data }, { on := 2, ground := Ground.chain }, { on := 2, ground := Ground.guard }], guard := some (2, false) }) rfl (fun K hK => ?_) AllReadyH.nil
                clear hHeld
                go_simp
                refine HLF.out.mono ?_
                rintro e z1 ⟨rfl, rfl⟩
                refine hK.out _ _ (HD.out) (fun hHeld => ?_)
                clear hK K
                try simp only [Act.put, List.setIfInBounds_toArray, List.set_cons_zero, List.set_cons_succ]
                refine wpAnyH_take (i := 10) (oi := { dst := some 135, op := Op.binOp BinOp.neq 3 (Operand.tmp 129) (Operand.tmp 134) 3, type := 4, pos := "law.go:137", after := #[{ on := 4, ground := Ground.data }, { on := 9, ground := Ground.data }, { on := 2, ground := Ground.guard }], guard := some (2, false) }) (v := ?_) rfl (by kernel_rfl) (by kernel_rfl) (by kernel_rfl) (fun _ _ _ h => h) (Or.inl ⟨by rfl, ?_⟩) hHeld ?_
                rotate_left
                · intro w hSw; (try dsimp only at hSw); go_simp; first | done | with_reducible rfl
                try simp only [Act.put, List.setIfInBounds_toArray, List.set_cons_zero, List.set_cons_succ]
                refine wpAnyH_take (i := 11) (oi := { dst := some 136, op := Op.pick (Operand.tmp 127) (Operand.const (Value.bool true)) (Operand.tmp 135), type := 4, pos := "law.go:137", after := #[{ on := 2, ground := Ground.data }, { on := 10, ground := Ground.data }], guard := none }) (v := ?_) rfl (by kernel_rfl) (by kernel_rfl) (by kernel_rfl) (fun _ _ _ h => h) (Or.inl ⟨by rfl, ?_⟩) hHeld ?_
                rotate_left
                · intro w hSw; (try dsimp only at hSw); go_simp; first | done | with_reducible rfl
                try simp only [Act.put, List.setIfInBounds_toArray, List.set_cons_zero, List.set_cons_succ]
                refine wpAnyH_take (i := 12) (oi := { dst := some 137, op := Op.move (Operand.tmp 136), type := 4, pos := "law.go:137", after := #[{ on := 11, ground := Ground.data }, { on := 4, ground := Ground.chain }], guard := none }) (v := ?_) rfl (by kernel_rfl) (by kernel_rfl) (by kernel_rfl) (fun _ _ _ h => h) (Or.inl ⟨by rfl, ?_⟩) hHeld ?_
                rotate_left
                · intro w hSw; (try dsimp only at hSw); go_simp; first | done | with_reducible rfl
                try simp only [Act.put, List.setIfInBounds_toArray, List.set_cons_zero, List.set_cons_succ]
                refine wpAnyH_take (i := 13) (oi := { dst := some 138, op := Op.move (Operand.tmp 8), type := 26, pos := "law.go:137", after := #[{ on := 12, ground := Ground.guard }], guard := some (12, false) }) (v := ?_) rfl (by kernel_rfl) (by kernel_rfl) (by kernel_rfl) (fun _ _ _ h => h) (Or.inl ⟨by rfl, ?_⟩) hHeld ?_
                rotate_left
                · intro w hSw; (try dsimp only at hSw); go_simp; first | done | with_reducible rfl
                try simp only [Act.put, List.setIfInBounds_toArray, List.set_cons_zero, List.set_cons_succ]
                refine wpAnyH_take (i := 16) (oi := { dst := some 141, op := Op.move (Operand.tmp 9), type := 28, pos := "law.go:137", after := #[{ on := 12, ground := Ground.guard }], guard := some (12, false) }) (v := ?_) rfl (by kernel_rfl) (by kernel_rfl) (by kernel_rfl) (fun _ _ _ h => h) (Or.inl ⟨by rfl, ?_⟩) hHeld ?_
                rotate_left
                · intro w hSw; (try dsimp only at hSw); go_simp; first | done | with_reducible rfl
                try simp only [Act.put, List.setIfInBounds_toArray, List.set_cons_zero, List.set_cons_succ]
                refine wpAnyH_take (i := 17) (oi := { dst := some 142, op := Op.nilCheck (Operand.tmp 141), type := 0, pos := "law.go:137", after := #[{ on := 16, ground := Ground.data }, { on := 12, ground := Ground.guard }], guard := some (12, false) }) (v := ?_) rfl (by kernel_rfl) (by kernel_rfl) (by kernel_rfl) (fun _ _ _ h => h) (Or.inl ⟨by rfl, ?_⟩) hHeld ?_
                rotate_left
                · intro w hSw; (try dsimp only at hSw); go_simp; first | done | with_reducible rfl
                try simp only [Act.put, List.setIfInBounds_toArray, List.set_cons_zero, List.set_cons_succ]
                refine wpAnyH_take (i := 18) (oi := { dst := some 143, op := Op.fieldAddr 30 (Operand.tmp 142) 1, type := 0, pos := "law.go:137", after := #[{ on := 17, ground := Ground.data }, { on := 12, ground := Ground.guard }], guard := some (12, false) }) (v := ?_) rfl (by kernel_rfl) (by kernel_rfl) (by kernel_rfl) (fun _ _ _ h => h) (Or.inl ⟨by rfl, ?_⟩) hHeld ?_
                rotate_left
                · intro w hSw; (try dsimp only at hSw); go_simp; first | done | with_reducible rfl
                try simp only [Act.put, List.setIfInBounds_toArray, List.set_cons_zero, List.set_cons_succ]
                refine wpAnyH_take (i := 19) (oi := { dst := some 144, op := Op.load 4 (Operand.tmp 143), type := 4, pos := "law.go:137", after := #[{ on := 18, ground := Ground.data }, { on := 12, ground := Ground.guard }], guard := some (12, false) }) (v := ?_) rfl (by kernel_rfl) (by kernel_rfl) (by kernel_rfl) (fun _ _ _ h => h) (Or.inl ⟨by rfl, ?_⟩) hHeld ?_
                rotate_left
                · intro w hSw; (try dsimp only at hSw); have c19 := hSw.2; go_simp; first | done | with_reducible rfl
                try simp only [Act.put, List.setIfInBounds_toArray, List.set_cons_zero, List.set_cons_succ]
                refine wpAnyH_ready (rs := [14]) (by kernel_rfl) (by simp) ?_
                refine AllReadyH.cons (o := { dst := some 139, op := Op.call { callee := Callee.value (Operand.func 26), args := #[Operand.tmp 138], argTypes := #[26] }, type := 42, pos := "law.go:137", after := #[{ on := 13, ground := Ground.data }, { on := 12, ground := Ground.chain }, { on := 12, ground := Ground.guard }], guard := some (12, false) }) rfl (fun K hK => ?_) AllReadyH.nil
                clear hHeld
                go_simp
                refine HER.out.mono ?_
                rintro e z2 ⟨rfl, rfl⟩
                refine hK.out _ _ (HD.out) (fun hHeld => ?_)
                clear hK K
                try simp only [Act.put, List.setIfInBounds_toArray, List.set_cons_zero, List.set_cons_succ]
                refine wpAnyH_take (i := 15) (oi := { dst := some 140, op := Op.binOp BinOp.neq 42 (Operand.tmp 139) (Operand.const (Value.int IntKind.i64 0)) 42, type := 4, pos := "law.go:137", after := #[{ on := 14, ground := Ground.data }, { on := 12, ground := Ground.guard }], guard := some (12, false) }) (v := ?_) rfl (by kernel_rfl) (by kernel_rfl) (by kernel_rfl) (fun _ _ _ h => h) (Or.inl ⟨by rfl, ?_⟩) hHeld ?_
                rotate_left
                · intro w hSw; (try dsimp only at hSw); go_simp; first | done | with_reducible rfl
                try simp only [Act.put, List.setIfInBounds_toArray, List.set_cons_zero, List.set_cons_succ]
                refine wpAnyH_take (i := 20) (oi := { dst := some 145, op := Op.binOp BinOp.neq 4 (Operand.tmp 140) (Operand.tmp 144) 4, type := 4, pos := "law.go:137", after := #[{ on := 15, ground := Ground.data }, { on := 19, ground := Ground.data }, { on := 12, ground := Ground.guard }], guard := some (12, false) }) (v := ?_) rfl (by kernel_rfl) (by kernel_rfl) (by kernel_rfl) (fun _ _ _ h => h) (Or.inl ⟨by rfl, ?_⟩) hHeld ?_
                rotate_left
                · intro w hSw; (try dsimp only at hSw); go_simp; first | done | with_reducible rfl
                try simp only [Act.put, List.setIfInBounds_toArray, List.set_cons_zero, List.set_cons_succ]
                refine wpAnyH_take (i := 21) (oi := { dst := some 146, op := Op.pick (Operand.tmp 137) (Operand.const (Value.bool true)) (Operand.tmp 145), type := 4, pos := "law.go:137", after := #[{ on := 12, ground := Ground.data }, { on := 20, ground := Ground.data }], guard := none }) (v := ?_) rfl (by kernel_rfl) (by kernel_rfl) (by kernel_rfl) (fun _ _ _ h => h) (Or.inl ⟨by rfl, ?_⟩) hHeld ?_
                rotate_left
                · intro w hSw; (try dsimp only at hSw); go_simp; first | done | with_reducible rfl
                try simp only [Act.put, List.setIfInBounds_toArray, List.set_cons_zero, List.set_cons_succ]
                refine wpAnyH_done (by kernel_rfl) ?_ _
                clear hHeld
                go_wp2_with fail
                go_roundw
                case rel => exact ⟨k + 1, by omega, by go_num, bs2, true, F', G2, HRd, HMd, HFGz, HBd, HXz, HLz⟩
                case measure => simp [intOf]; omega
              · cases st2 with
                | true =>
                  have HRd := hide (show Rd tz.drew w.heap.size F' g bs2 true from HRz.out.keep (Keep.drew (fun _ => False) tz) (fun _ _ => id))
                  have HMd := hide (show RdM tz.drew w.heap.size G2 gm bs2 true from HMz.out.keep (Keep.drew (fun _ => False) tz) (fun _ _ => id))
                  have HBd := hide (show Below w.heap.size w tz.drew from HBz.out.drew)
                  obtain ⟨am, cm, _, _, _, d0, d1, _, _⟩ := HMd.out.cells
                  have HD := hide (And.intro d0 d1)
                  clear d0 d1
                  have HLF := hide (left_any tz.drew _ _ _ _ _ HRd.out)
                  have HER := hide (err_any tz.drew _ _ _ _ _ HRd.out)
                  rw [show errOf true = 2 from rfl] at HER
                  obtain ⟨lz, hlz⟩ : ∃ lz, bs2.length = lz := ⟨_, rfl⟩
                  rw [hlz] at HD HLF
                  clear hlz
                  go_wp2_with fail
                  refine wp_region_held_drew (S := fun w' => w'.cell? ⟨gm, 0, none⟩ = some (.slice am lz cm) ∧ w'.cell? ⟨gm, 1, none⟩ = some (.bool true)) (by kernel_rfl) HD.out (fun hHeld => ?_)
                  refine wpAnyH_take (i := 0) (oi := { dst := some 125, op := Op.move (Operand.tmp 13), type := 4, pos := "law.go:137", after := #[], guard := none }) (v := ?_) rfl (by kernel_rfl) (by kernel_rfl) (by kernel_rfl) (fun _ _ _ h => h) (Or.inl ⟨by rfl, ?_⟩) hHeld ?_
                  rotate_left
                  · intro w hSw; (try dsimp only at hSw); go_simp; first | done | with_reducible rfl
                  try simp only [Act.put, List.setIfInBounds_toArray, List.set_cons_zero, List.set_cons_succ]
                  refine wpAnyH_take (i := 1) (oi := { dst := some 126, op := Op.unOp UnOp.not 4 (Operand.tmp 125), type := 4, pos := "law.go:137", after := #[{ on := 0, ground := Ground.data }], guard := none }) (v := ?_) rfl (by kernel_rfl) (by kernel_rfl) (by kernel_rfl) (fun _ _ _ h => h) (Or.inl ⟨by rfl, ?_⟩) hHeld ?_
                  rotate_left
                  · intro w hSw; (try dsimp only at hSw); go_simp; first | done | with_reducible rfl
                  try simp only [Act.put, List.setIfInBounds_toArray, List.set_cons_zero, List.set_cons_succ]
                  refine wpAnyH_take (i := 2) (oi := { dst := some 127, op := Op.move (Operand.tmp 126), type := 4, pos := "law.go:137", after := #[{ on := 1, ground := Ground.data }], guard := none }) (v := ?_) rfl (by kernel_rfl) (by kernel_rfl) (by kernel_rfl) (fun _ _ _ h => h) (Or.inl ⟨by rfl, ?_⟩) hHeld ?_
                  rotate_left
                  · intro w hSw; (try dsimp only at hSw); go_simp; first | done | with_reducible rfl
                  try simp only [Act.put, List.setIfInBounds_toArray, List.set_cons_zero, List.set_cons_succ]
                  refine wpAnyH_take (i := 3) (oi := { dst := some 128, op := Op.move (Operand.tmp 8), type := 26, pos := "law.go:137", after := #[{ on := 2, ground := Ground.guard }], guard := some (2, false) }) (v := ?_) rfl (by kernel_rfl) (by kernel_rfl) (by kernel_rfl) (fun _ _ _ h => h) (Or.inl ⟨by rfl, ?_⟩) hHeld ?_
                  rotate_left
                  · intro w hSw; (try dsimp only at hSw); go_simp; first | done | with_reducible rfl
                  try simp only [Act.put, List.setIfInBounds_toArray, List.set_cons_zero, List.set_cons_succ]
                  refine wpAnyH_take (i := 5) (oi := { dst := some 130, op := Op.move (Operand.tmp 9), type := 28, pos := "law.go:137", after := #[{ on := 2, ground := Ground.guard }], guard := some (2, false) }) (v := ?_) rfl (by kernel_rfl) (by kernel_rfl) (by kernel_rfl) (fun _ _ _ h => h) (Or.inl ⟨by rfl, ?_⟩) hHeld ?_
                  rotate_left
                  · intro w hSw; (try dsimp only at hSw); go_simp; first | done | with_reducible rfl
                  try simp only [Act.put, List.setIfInBounds_toArray, List.set_cons_zero, List.set_cons_succ]
                  refine wpAnyH_take (i := 6) (oi := { dst := some 131, op := Op.nilCheck (Operand.tmp 130), type := 0, pos := "law.go:137", after := #[{ on := 5, ground := Ground.data }, { on := 2, ground := Ground.guard }], guard := some (2, false) }) (v := ?_) rfl (by kernel_rfl) (by kernel_rfl) (by kernel_rfl) (fun _ _ _ h => h) (Or.inl ⟨by rfl, ?_⟩) hHeld ?_
                  rotate_left
                  · intro w hSw; (try dsimp only at hSw); go_simp; first | done | with_reducible rfl
                  try simp only [Act.put, List.setIfInBounds_toArray, List.set_cons_zero, List.set_cons_succ]
                  refine wpAnyH_take (i := 7) (oi := { dst := some 132, op := Op.fieldAddr 30 (Operand.tmp 131) 0, type := 0, pos := "law.go:137", after := #[{ on := 6, ground := Ground.data }, { on := 2, ground := Ground.guard }], guard := some (2, false) }) (v := ?_) rfl (by kernel_rfl) (by kernel_rfl) (by kernel_rfl) (fun _ _ _ h => h) (Or.inl ⟨by rfl, ?_⟩) hHeld ?_
                  rotate_left
                  · intro w hSw; (try dsimp only at hSw); go_simp; first | done | with_reducible rfl
                  try simp only [Act.put, List.setIfInBounds_toArray, List.set_cons_zero, List.set_cons_succ]
                  refine wpAnyH_take (i := 8) (oi := { dst := some 133, op := Op.load 22 (Operand.tmp 132), type := 22, pos := "law.go:137", after := #[{ on := 7, ground := Ground.data }, { on := 2, ground := Ground.guard }], guard := some (2, false) }) (v := ?_) rfl (by kernel_rfl) (by kernel_rfl) (by kernel_rfl) (fun _ _ _ h => h) (Or.inl ⟨by rfl, ?_⟩) hHeld ?_
                  rotate_left
                  · intro w hSw; (try dsimp only at hSw); have c8 := hSw.1; go_simp; first | done | with_reducible rfl
                  try simp only [Act.put, List.setIfInBounds_toArray, List.set_cons_zero, List.set_cons_succ]
                  refine wpAnyH_take (i := 9) (oi := { dst := some 134, op := Op.call { callee := Callee.builtin Builtin.len, args := #[Operand.tmp 133], argTypes := #[22] }, type := 3, pos := "law.go:137", after := #[{ on := 8, ground := Ground.data }, { on := 2, ground := Ground.guard }], guard := some (2, false) }) (v := ?_) rfl (by kernel_rfl) (by kernel_rfl) (by kernel_rfl) (fun _ _ _ h => h) (Or.inl ⟨by rfl, ?_⟩) hHeld ?_
                  rotate_left
                  · intro w hSw; (try dsimp only at hSw); go_simp; first | done | with_reducible rfl
                  try simp only [Act.put, List.setIfInBounds_toArray, List.set_cons_zero, List.set_cons_succ]
                  refine wpAnyH_ready (rs := [4]) (by kernel_rfl) (by simp) ?_
                  refine AllReadyH.cons (o := { dst := some 129, op := Op.call { callee := Callee.value (Operand.func 25), args := #[Operand.tmp 128], argTypes := #[26] }, type := 3, pos := "law.go:137", after := #[{ on := 3, ground := Ground.data }, { on := 2, ground := Ground.chain }, { on := 2, ground := Ground.guard }], guard := some (2, false) }) rfl (fun K hK => ?_) AllReadyH.nil
                  clear hHeld
                  go_simp
                  refine HLF.out.mono ?_
                  rintro e z1 ⟨rfl, rfl⟩
                  refine hK.out _ _ (HD.out) (fun hHeld => ?_)
                  clear hK K
                  try simp only [Act.put, List.setIfInBounds_toArray, List.set_cons_zero, List.set_cons_succ]
                  refine wpAnyH_take (i := 10) (oi := { dst := some 135, op := Op.binOp BinOp.neq 3 (Operand.tmp 129) (Operand.tmp 134) 3, type := 4, pos := "law.go:137", after := #[{ on := 4, ground := Ground.data }, { on := 9, ground := Ground.data }, { on := 2, ground := Ground.guard }], guard := some (2, false) }) (v := ?_) rfl (by kernel_rfl) (by kernel_rfl) (by kernel_rfl) (fun _ _ _ h => h) (Or.inl ⟨by rfl, ?_⟩) hHeld ?_
                  rotate_left
                  · intro w hSw; (try dsimp only at hSw); go_simp; first | done | with_reducible rfl
                  try simp only [Act.put, List.setIfInBounds_toArray, List.set_cons_zero, List.set_cons_succ]
                  refine wpAnyH_take (i := 11) (oi := { dst := some 136, op := Op.pick (Operand.tmp 127) (Operand.const (Value.bool true)) (Operand.tmp 135), type := 4, pos := "law.go:137", after := #[{ on := 2, ground := Ground.data }, { on := 10, ground := Ground.data }], guard := none }) (v := ?_) rfl (by kernel_rfl) (by kernel_rfl) (by kernel_rfl) (fun _ _ _ h => h) (Or.inl ⟨by rfl, ?_⟩) hHeld ?_
                  rotate_left
                  · intro w hSw; (try dsimp only at hSw); go_simp; first | done | with_reducible rfl
                  try simp only [Act.put, List.setIfInBounds_toArray, List.set_cons_zero, List.set_cons_succ]
                  refine wpAnyH_take (i := 12) (oi := { dst := some 137, op := Op.move (Operand.tmp 136), type := 4, pos := "law.go:137", after := #[{ on := 11, ground := Ground.data }, { on := 4, ground := Ground.chain }], guard := none }) (v := ?_) rfl (by kernel_rfl) (by kernel_rfl) (by kernel_rfl) (fun _ _ _ h => h) (Or.inl ⟨by rfl, ?_⟩) hHeld ?_
                  rotate_left
                  · intro w hSw; (try dsimp only at hSw); go_simp; first | done | with_reducible rfl
                  try simp only [Act.put, List.setIfInBounds_toArray, List.set_cons_zero, List.set_cons_succ]
                  refine wpAnyH_take (i := 13) (oi := { dst := some 138, op := Op.move (Operand.tmp 8), type := 26, pos := "law.go:137", after := #[{ on := 12, ground := Ground.guard }], guard := some (12, false) }) (v := ?_) rfl (by kernel_rfl) (by kernel_rfl) (by kernel_rfl) (fun _ _ _ h => h) (Or.inl ⟨by rfl, ?_⟩) hHeld ?_
                  rotate_left
                  · intro w hSw; (try dsimp only at hSw); go_simp; first | done | with_reducible rfl
                  try simp only [Act.put, List.setIfInBounds_toArray, List.set_cons_zero, List.set_cons_succ]
                  refine wpAnyH_take (i := 16) (oi := { dst := some 141, op := Op.move (Operand.tmp 9), type := 28, pos := "law.go:137", after := #[{ on := 12, ground := Ground.guard }], guard := some (12, false) }) (v := ?_) rfl (by kernel_rfl) (by kernel_rfl) (by kernel_rfl) (fun _ _ _ h => h) (Or.inl ⟨by rfl, ?_⟩) hHeld ?_
                  rotate_left
                  · intro w hSw; (try dsimp only at hSw); go_simp; first | done | with_reducible rfl
                  try simp only [Act.put, List.setIfInBounds_toArray, List.set_cons_zero, List.set_cons_succ]
                  refine wpAnyH_take (i := 17) (oi := { dst := some 142, op := Op.nilCheck (Operand.tmp 141), type := 0, pos := "law.go:137", after := #[{ on := 16, ground := Ground.data }, { on := 12, ground := Ground.guard }], guard := some (12, false) }) (v := ?_) rfl (by kernel_rfl) (by kernel_rfl) (by kernel_rfl) (fun _ _ _ h => h) (Or.inl ⟨by rfl, ?_⟩) hHeld ?_
                  rotate_left
                  · intro w hSw; (try dsimp only at hSw); go_simp; first | done | with_reducible rfl
                  try simp only [Act.put, List.setIfInBounds_toArray, List.set_cons_zero, List.set_cons_succ]
                  refine wpAnyH_take (i := 18) (oi := { dst := some 143, op := Op.fieldAddr 30 (Operand.tmp 142) 1, type := 0, pos := "law.go:137", after := #[{ on := 17, ground := Ground.data }, { on := 12, ground := Ground.guard }], guard := some (12, false) }) (v := ?_) rfl (by kernel_rfl) (by kernel_rfl) (by kernel_rfl) (fun _ _ _ h => h) (Or.inl ⟨by rfl, ?_⟩) hHeld ?_
                  rotate_left
                  · intro w hSw; (try dsimp only at hSw); go_simp; first | done | with_reducible rfl
                  try simp only [Act.put, List.setIfInBounds_toArray, List.set_cons_zero, List.set_cons_succ]
                  refine wpAnyH_take (i := 19) (oi := { dst := some 144, op := Op.load 4 (Operand.tmp 143), type := 4, pos := "law.go:137", after := #[{ on := 18, ground := Ground.data }, { on := 12, ground := Ground.guard }], guard := some (12, false) }) (v := ?_) rfl (by kernel_rfl) (by kernel_rfl) (by kernel_rfl) (fun _ _ _ h => h) (Or.inl ⟨by rfl, ?_⟩) hHeld ?_
                  rotate_left
                  · intro w hSw; (try dsimp only at hSw); have c19 := hSw.2; go_simp; first | done | with_reducible rfl
                  try simp only [Act.put, List.setIfInBounds_toArray, List.set_cons_zero, List.set_cons_succ]
                  refine wpAnyH_ready (rs := [14]) (by kernel_rfl) (by simp) ?_
                  refine AllReadyH.cons (o := { dst := some 139, op := Op.call { callee := Callee.value (Operand.func 26), args := #[Operand.tmp 138], argTypes := #[26] }, type := 42, pos := "law.go:137", after := #[{ on := 13, ground := Ground.data }, { on := 12, ground := Ground.chain }, { on := 12, ground := Ground.guard }], guard := some (12, false) }) rfl (fun K hK => ?_) AllReadyH.nil
                  clear hHeld
                  go_simp
                  refine HER.out.mono ?_
                  rintro e z2 ⟨rfl, rfl⟩
                  refine hK.out _ _ (HD.out) (fun hHeld => ?_)
                  clear hK K
                  try simp only [Act.put, List.setIfInBounds_toArray, List.set_cons_zero, List.set_cons_succ]
                  refine wpAnyH_take (i := 15) (oi := { dst := some 140, op := Op.binOp BinOp.neq 42 (Operand.tmp 139) (Operand.const (Value.int IntKind.i64 0)) 42, type := 4, pos := "law.go:137", after := #[{ on := 14, ground := Ground.data }, { on := 12, ground := Ground.guard }], guard := some (12, false) }) (v := ?_) rfl (by kernel_rfl) (by kernel_rfl) (by kernel_rfl) (fun _ _ _ h => h) (Or.inl ⟨by rfl, ?_⟩) hHeld ?_
                  rotate_left
                  · intro w hSw; (try dsimp only at hSw); go_simp; first | done | with_reducible rfl
                  try simp only [Act.put, List.setIfInBounds_toArray, List.set_cons_zero, List.set_cons_succ]
                  refine wpAnyH_take (i := 20) (oi := { dst := some 145, op := Op.binOp BinOp.neq 4 (Operand.tmp 140) (Operand.tmp 144) 4, type := 4, pos := "law.go:137", after := #[{ on := 15, ground := Ground.data }, { on := 19, ground := Ground.data }, { on := 12, ground := Ground.guard }], guard := some (12, false) }) (v := ?_) rfl (by kernel_rfl) (by kernel_rfl) (by kernel_rfl) (fun _ _ _ h => h) (Or.inl ⟨by rfl, ?_⟩) hHeld ?_
                  rotate_left
                  · intro w hSw; (try dsimp only at hSw); go_simp; first | done | with_reducible rfl
                  try simp only [Act.put, List.setIfInBounds_toArray, List.set_cons_zero, List.set_cons_succ]
                  refine wpAnyH_take (i := 21) (oi := { dst := some 146, op := Op.pick (Operand.tmp 137) (Operand.const (Value.bool true)) (Operand.tmp 145), type := 4, pos := "law.go:137", after := #[{ on := 12, ground := Ground.data }, { on := 20, ground := Ground.data }], guard := none }) (v := ?_) rfl (by kernel_rfl) (by kernel_rfl) (by kernel_rfl) (fun _ _ _ h => h) (Or.inl ⟨by rfl, ?_⟩) hHeld ?_
                  rotate_left
                  · intro w hSw; (try dsimp only at hSw); go_simp; first | done | with_reducible rfl
                  try simp only [Act.put, List.setIfInBounds_toArray, List.set_cons_zero, List.set_cons_succ]
                  refine wpAnyH_done (by kernel_rfl) ?_ _
                  clear hHeld
                  go_wp2_with fail
                  go_roundw
                  case rel => exact ⟨k + 1, by omega, by go_num, bs2, true, F', G2, HRd, HMd, HFGz, HBd, HXz, HLz⟩
                  case measure => simp [intOf]; omega
                | false =>
                  have HRd := hide (show Rd tz.drew w.heap.size F' g bs2 false from HRz.out.keep (Keep.drew (fun _ => False) tz) (fun _ _ => id))
                  have HMd := hide (show RdM tz.drew w.heap.size G2 gm bs2 false from HMz.out.keep (Keep.drew (fun _ => False) tz) (fun _ _ => id))
                  have HBd := hide (show Below w.heap.size w tz.drew from HBz.out.drew)
                  obtain ⟨am, cm, _, _, _, d0, d1, _, _⟩ := HMd.out.cells
                  have HD := hide (And.intro d0 d1)
                  clear d0 d1
                  have HLF := hide (left_any tz.drew _ _ _ _ _ HRd.out)
                  have HER := hide (err_any tz.drew _ _ _ _ _ HRd.out)
                  rw [show errOf false = 0 from rfl] at HER
                  obtain ⟨lz, hlz⟩ : ∃ lz, bs2.length = lz := ⟨_, rfl⟩
                  rw [hlz] at HD HLF
                  clear hlz
                  go_wp2_with fail
                  refine wp_region_held_drew (S := fun w' => w'.cell? ⟨gm, 0, none⟩ = some (.slice am lz cm) ∧ w'.cell? ⟨gm, 1, none⟩ = some (.bool false)) (by kernel_rfl) HD.out (fun hHeld => ?_)
                  refine wpAnyH_take (i := 0) (oi := { dst := some 125, op := Op.move (Operand.tmp 13), type := 4, pos := "law.go:137", after := #[], guard := none }) (v := ?_) rfl (by kernel_rfl) (by kernel_rfl) (by kernel_rfl) (fun _ _ _ h => h) (Or.inl ⟨by rfl, ?_⟩) hHeld ?_
                  rotate_left
                  · intro w hSw; (try dsimp only at hSw); go_simp; first | done | with_reducible rfl
                  try simp only [Act.put, List.setIfInBounds_toArray, List.set_cons_zero, List.set_cons_succ]
                  refine wpAnyH_take (i := 1) (oi := { dst := some 126, op := Op.unOp UnOp.not 4 (Operand.tmp 125), type := 4, pos := "law.go:137", after := #[{ on := 0, ground := Ground.data }], guard := none }) (v := ?_) rfl (by kernel_rfl) (by kernel_rfl) (by kernel_rfl) (fun _ _ _ h => h) (Or.inl ⟨by rfl, ?_⟩) hHeld ?_
                  rotate_left
                  · intro w hSw; (try dsimp only at hSw); go_simp; first | done | with_reducible rfl
                  try simp only [Act.put, List.setIfInBounds_toArray, List.set_cons_zero, List.set_cons_succ]
                  refine wpAnyH_take (i := 2) (oi := { dst := some 127, op := Op.move (Operand.tmp 126), type := 4, pos := "law.go:137", after := #[{ on := 1, ground := Ground.data }], guard := none }) (v := ?_) rfl (by kernel_rfl) (by kernel_rfl) (by kernel_rfl) (fun _ _ _ h => h) (Or.inl ⟨by rfl, ?_⟩) hHeld ?_
                  rotate_left
                  · intro w hSw; (try dsimp only at hSw); go_simp; first | done | with_reducible rfl
                  try simp only [Act.put, List.setIfInBounds_toArray, List.set_cons_zero, List.set_cons_succ]
                  refine wpAnyH_take (i := 3) (oi := { dst := some 128, op := Op.move (Operand.tmp 8), type := 26, pos := "law.go:137", after := #[{ on := 2, ground := Ground.guard }], guard := some (2, false) }) (v := ?_) rfl (by kernel_rfl) (by kernel_rfl) (by kernel_rfl) (fun _ _ _ h => h) (Or.inl ⟨by rfl, ?_⟩) hHeld ?_
                  rotate_left
                  · intro w hSw; (try dsimp only at hSw); go_simp; first | done | with_reducible rfl
                  try simp only [Act.put, List.setIfInBounds_toArray, List.set_cons_zero, List.set_cons_succ]
                  refine wpAnyH_take (i := 5) (oi := { dst := some 130, op := Op.move (Operand.tmp 9), type := 28, pos := "law.go:137", after := #[{ on := 2, ground := Ground.guard }], guard := some (2, false) }) (v := ?_) rfl (by kernel_rfl) (by kernel_rfl) (by kernel_rfl) (fun _ _ _ h => h) (Or.inl ⟨by rfl, ?_⟩) hHeld ?_
                  rotate_left
                  · intro w hSw; (try dsimp only at hSw); go_simp; first | done | with_reducible rfl
                  try simp only [Act.put, List.setIfInBounds_toArray, List.set_cons_zero, List.set_cons_succ]
                  refine wpAnyH_take (i := 6) (oi := { dst := some 131, op := Op.nilCheck (Operand.tmp 130), type := 0, pos := "law.go:137", after := #[{ on := 5, ground := Ground.data }, { on := 2, ground := Ground.guard }], guard := some (2, false) }) (v := ?_) rfl (by kernel_rfl) (by kernel_rfl) (by kernel_rfl) (fun _ _ _ h => h) (Or.inl ⟨by rfl, ?_⟩) hHeld ?_
                  rotate_left
                  · intro w hSw; (try dsimp only at hSw); go_simp; first | done | with_reducible rfl
                  try simp only [Act.put, List.setIfInBounds_toArray, List.set_cons_zero, List.set_cons_succ]
                  refine wpAnyH_take (i := 7) (oi := { dst := some 132, op := Op.fieldAddr 30 (Operand.tmp 131) 0, type := 0, pos := "law.go:137", after := #[{ on := 6, ground := Ground.data }, { on := 2, ground := Ground.guard }], guard := some (2, false) }) (v := ?_) rfl (by kernel_rfl) (by kernel_rfl) (by kernel_rfl) (fun _ _ _ h => h) (Or.inl ⟨by rfl, ?_⟩) hHeld ?_
                  rotate_left
                  · intro w hSw; (try dsimp only at hSw); go_simp; first | done | with_reducible rfl
                  try simp only [Act.put, List.setIfInBounds_toArray, List.set_cons_zero, List.set_cons_succ]
                  refine wpAnyH_take (i := 8) (oi := { dst := some 133, op := Op.load 22 (Operand.tmp 132), type := 22, pos := "law.go:137", after := #[{ on := 7, ground := Ground.data }, { on := 2, ground := Ground.guard }], guard := some (2, false) }) (v := ?_) rfl (by kernel_rfl) (by kernel_rfl) (by kernel_rfl) (fun _ _ _ h => h) (Or.inl ⟨by rfl, ?_⟩) hHeld ?_
                  rotate_left
                  · intro w hSw; (try dsimp only at hSw); have c8 := hSw.1; go_simp; first | done | with_reducible rfl
                  try simp only [Act.put, List.setIfInBounds_toArray, List.set_cons_zero, List.set_cons_succ]
                  refine wpAnyH_take (i := 9) (oi := { dst := some 134, op := Op.call { callee := Callee.builtin Builtin.len, args := #[Operand.tmp 133], argTypes := #[22] }, type := 3, pos := "law.go:137", after := #[{ on := 8, ground := Ground.data }, { on := 2, ground := Ground.guard }], guard := some (2, false) }) (v := ?_) rfl (by kernel_rfl) (by kernel_rfl) (by kernel_rfl) (fun _ _ _ h => h) (Or.inl ⟨by rfl, ?_⟩) hHeld ?_
                  rotate_left
                  · intro w hSw; (try dsimp only at hSw); go_simp; first | done | with_reducible rfl
                  try simp only [Act.put, List.setIfInBounds_toArray, List.set_cons_zero, List.set_cons_succ]
                  refine wpAnyH_ready (rs := [4]) (by kernel_rfl) (by simp) ?_
                  refine AllReadyH.cons (o := { dst := some 129, op := Op.call { callee := Callee.value (Operand.func 25), args := #[Operand.tmp 128], argTypes := #[26] }, type := 3, pos := "law.go:137", after := #[{ on := 3, ground := Ground.data }, { on := 2, ground := Ground.chain }, { on := 2, ground := Ground.guard }], guard := some (2, false) }) rfl (fun K hK => ?_) AllReadyH.nil
                  clear hHeld
                  go_simp
                  refine HLF.out.mono ?_
                  rintro e z1 ⟨rfl, rfl⟩
                  refine hK.out _ _ (HD.out) (fun hHeld => ?_)
                  clear hK K
                  try simp only [Act.put, List.setIfInBounds_toArray, List.set_cons_zero, List.set_cons_succ]
                  refine wpAnyH_take (i := 10) (oi := { dst := some 135, op := Op.binOp BinOp.neq 3 (Operand.tmp 129) (Operand.tmp 134) 3, type := 4, pos := "law.go:137", after := #[{ on := 4, ground := Ground.data }, { on := 9, ground := Ground.data }, { on := 2, ground := Ground.guard }], guard := some (2, false) }) (v := ?_) rfl (by kernel_rfl) (by kernel_rfl) (by kernel_rfl) (fun _ _ _ h => h) (Or.inl ⟨by rfl, ?_⟩) hHeld ?_
                  rotate_left
                  · intro w hSw; (try dsimp only at hSw); go_simp; first | done | with_reducible rfl
                  try simp only [Act.put, List.setIfInBounds_toArray, List.set_cons_zero, List.set_cons_succ]
                  refine wpAnyH_take (i := 11) (oi := { dst := some 136, op := Op.pick (Operand.tmp 127) (Operand.const (Value.bool true)) (Operand.tmp 135), type := 4, pos := "law.go:137", after := #[{ on := 2, ground := Ground.data }, { on := 10, ground := Ground.data }], guard := none }) (v := ?_) rfl (by kernel_rfl) (by kernel_rfl) (by kernel_rfl) (fun _ _ _ h => h) (Or.inl ⟨by rfl, ?_⟩) hHeld ?_
                  rotate_left
                  · intro w hSw; (try dsimp only at hSw); go_simp; first | done | with_reducible rfl
                  try simp only [Act.put, List.setIfInBounds_toArray, List.set_cons_zero, List.set_cons_succ]
                  refine wpAnyH_take (i := 12) (oi := { dst := some 137, op := Op.move (Operand.tmp 136), type := 4, pos := "law.go:137", after := #[{ on := 11, ground := Ground.data }, { on := 4, ground := Ground.chain }], guard := none }) (v := ?_) rfl (by kernel_rfl) (by kernel_rfl) (by kernel_rfl) (fun _ _ _ h => h) (Or.inl ⟨by rfl, ?_⟩) hHeld ?_
                  rotate_left
                  · intro w hSw; (try dsimp only at hSw); go_simp; first | done | with_reducible rfl
                  try simp only [Act.put, List.setIfInBounds_toArray, List.set_cons_zero, List.set_cons_succ]
                  refine wpAnyH_take (i := 13) (oi := { dst := some 138, op := Op.move (Operand.tmp 8), type := 26, pos := "law.go:137", after := #[{ on := 12, ground := Ground.guard }], guard := some (12, false) }) (v := ?_) rfl (by kernel_rfl) (by kernel_rfl) (by kernel_rfl) (fun _ _ _ h => h) (Or.inl ⟨by rfl, ?_⟩) hHeld ?_
                  rotate_left
                  · intro w hSw; (try dsimp only at hSw); go_simp; first | done | with_reducible rfl
                  try simp only [Act.put, List.setIfInBounds_toArray, List.set_cons_zero, List.set_cons_succ]
                  refine wpAnyH_take (i := 16) (oi := { dst := some 141, op := Op.move (Operand.tmp 9), type := 28, pos := "law.go:137", after := #[{ on := 12, ground := Ground.guard }], guard := some (12, false) }) (v := ?_) rfl (by kernel_rfl) (by kernel_rfl) (by kernel_rfl) (fun _ _ _ h => h) (Or.inl ⟨by rfl, ?_⟩) hHeld ?_
                  rotate_left
                  · intro w hSw; (try dsimp only at hSw); go_simp; first | done | with_reducible rfl
                  try simp only [Act.put, List.setIfInBounds_toArray, List.set_cons_zero, List.set_cons_succ]
                  refine wpAnyH_take (i := 17) (oi := { dst := some 142, op := Op.nilCheck (Operand.tmp 141), type := 0, pos := "law.go:137", after := #[{ on := 16, ground := Ground.data }, { on := 12, ground := Ground.guard }], guard := some (12, false) }) (v := ?_) rfl (by kernel_rfl) (by kernel_rfl) (by kernel_rfl) (fun _ _ _ h => h) (Or.inl ⟨by rfl, ?_⟩) hHeld ?_
                  rotate_left
                  · intro w hSw; (try dsimp only at hSw); go_simp; first | done | with_reducible rfl
                  try simp only [Act.put, List.setIfInBounds_toArray, List.set_cons_zero, List.set_cons_succ]
                  refine wpAnyH_take (i := 18) (oi := { dst := some 143, op := Op.fieldAddr 30 (Operand.tmp 142) 1, type := 0, pos := "law.go:137", after := #[{ on := 17, ground := Ground.data }, { on := 12, ground := Ground.guard }], guard := some (12, false) }) (v := ?_) rfl (by kernel_rfl) (by kernel_rfl) (by kernel_rfl) (fun _ _ _ h => h) (Or.inl ⟨by rfl, ?_⟩) hHeld ?_
                  rotate_left
                  · intro w hSw; (try dsimp only at hSw); go_simp; first | done | with_reducible rfl
                  try simp only [Act.put, List.setIfInBounds_toArray, List.set_cons_zero, List.set_cons_succ]
                  refine wpAnyH_take (i := 19) (oi := { dst := some 144, op := Op.load 4 (Operand.tmp 143), type := 4, pos := "law.go:137", after := #[{ on := 18, ground := Ground.data }, { on := 12, ground := Ground.guard }], guard := some (12, false) }) (v := ?_) rfl (by kernel_rfl) (by kernel_rfl) (by kernel_rfl) (fun _ _ _ h => h) (Or.inl ⟨by rfl, ?_⟩) hHeld ?_
                  rotate_left
                  · intro w hSw; (try dsimp only at hSw); have c19 := hSw.2; go_simp; first | done | with_reducible rfl
                  try simp only [Act.put, List.setIfInBounds_toArray, List.set_cons_zero, List.set_cons_succ]
                  refine wpAnyH_ready (rs := [14]) (by kernel_rfl) (by simp) ?_
                  refine AllReadyH.cons (o := { dst := some 139, op := Op.call { callee := Callee.value (Operand.func 26), args := #[Operand.tmp 138], argTypes := #[26] }, type := 42, pos := "law.go:137", after := #[{ on := 13, ground := Ground.data }, { on := 12, ground := Ground.chain }, { on := 12, ground := Ground.guard }], guard := some (12, false) }) rfl (fun K hK => ?_) AllReadyH.nil
                  clear hHeld
                  go_simp
                  refine HER.out.mono ?_
                  rintro e z2 ⟨rfl, rfl⟩
                  refine hK.out _ _ (HD.out) (fun hHeld => ?_)
                  clear hK K
                  try simp only [Act.put, List.setIfInBounds_toArray, List.set_cons_zero, List.set_cons_succ]
                  refine wpAnyH_take (i := 15) (oi := { dst := some 140, op := Op.binOp BinOp.neq 42 (Operand.tmp 139) (Operand.const (Value.int IntKind.i64 0)) 42, type := 4, pos := "law.go:137", after := #[{ on := 14, ground := Ground.data }, { on := 12, ground := Ground.guard }], guard := some (12, false) }) (v := ?_) rfl (by kernel_rfl) (by kernel_rfl) (by kernel_rfl) (fun _ _ _ h => h) (Or.inl ⟨by rfl, ?_⟩) hHeld ?_
                  rotate_left
                  · intro w hSw; (try dsimp only at hSw); go_simp; first | done | with_reducible rfl
                  try simp only [Act.put, List.setIfInBounds_toArray, List.set_cons_zero, List.set_cons_succ]
                  refine wpAnyH_take (i := 20) (oi := { dst := some 145, op := Op.binOp BinOp.neq 4 (Operand.tmp 140) (Operand.tmp 144) 4, type := 4, pos := "law.go:137", after := #[{ on := 15, ground := Ground.data }, { on := 19, ground := Ground.data }, { on := 12, ground := Ground.guard }], guard := some (12, false) }) (v := ?_) rfl (by kernel_rfl) (by kernel_rfl) (by kernel_rfl) (fun _ _ _ h => h) (Or.inl ⟨by rfl, ?_⟩) hHeld ?_
                  rotate_left
                  · intro w hSw; (try dsimp only at hSw); go_simp; first | done | with_reducible rfl
                  try simp only [Act.put, List.setIfInBounds_toArray, List.set_cons_zero, List.set_cons_succ]
                  refine wpAnyH_take (i := 21) (oi := { dst := some 146, op := Op.pick (Operand.tmp 137) (Operand.const (Value.bool true)) (Operand.tmp 145), type := 4, pos := "law.go:137", after := #[{ on := 12, ground := Ground.data }, { on := 20, ground := Ground.data }], guard := none }) (v := ?_) rfl (by kernel_rfl) (by kernel_rfl) (by kernel_rfl) (fun _ _ _ h => h) (Or.inl ⟨by rfl, ?_⟩) hHeld ?_
                  rotate_left
                  · intro w hSw; (try dsimp only at hSw); go_simp; first | done | with_reducible rfl
                  try simp only [Act.put, List.setIfInBounds_toArray, List.set_cons_zero, List.set_cons_succ]
                  refine wpAnyH_done (by kernel_rfl) ?_ _
                  clear hHeld
                  go_wp2_with fail
                  go_roundw
                  case rel => exact ⟨k + 1, by omega, by go_num, bs2, false, F', G2, HRd, HMd, HFGz, HBd, HXz, HLz⟩
                  case measure => simp [intOf]; omega
        · obtain rfl : k = n := by omega
          have HE := hide (endM_any wr w.heap.size G' gm bs st HM.out)
          rw [show (st || decide (0 < bs.length)) = (st || !bs.isEmpty) by cases bs <;> simp] at HE
          go_wp2_with fail
          refine HE.out.mono ?_
          rintro e t1 ⟨rfl, hK, hM⟩
          have HR1 := hide (HR.out.keep hK (fun j a b => HFG.out j a b))
          have HB1 := hide (hK.through HB.out (fun j h => (HM.out.ge j h).1) HB.out.size)
          have HN2 := hide (endr_any t1 _ _ _ _ _ HR1.out)
          clear hK hM HE HR HB HM
          generalize (st || !bs.isEmpty) = bb at HN2 ⊢
          cases bb with
          | true =>
            go_wp2_with fail
            refine HN2.out.mono ?_
            rintro e t2 ⟨rfl, hK, hN⟩
            have HB2 := hide (hK.through HB1.out (fun j h => (HR1.out.ge j h).1) HB1.out.size)
            have HNn := hide hN
            rw [show errOf true = 2 from rfl]
            clear hK hN HN2 HR1 HB1
            go_wp2_with fail
            refine (err_any t2 _ _ _ _ _ HNn.out).mono ?_
            rintro e t2 ⟨rfl, rfl⟩
            rw [show errOf true = 2 from rfl]
            have HAW := hide (awake_any t2 (ht.below HB2.out h2))
            go_wp2_with fail
            refine HAW.out.mono ?_
            rintro e t3 ⟨rfl, hB5⟩
            have HB5 := hide (HB2.out.trans (hB5.mono HB2.out.size))
            clear hB5
            go_wp2_with fail
            go_ret
            exact ⟨rfl, HB5.out⟩
          | false =>
            go_wp2_with fail
            refine HN2.out.mono ?_
            rintro e t2 ⟨rfl, hK, hN⟩
            have HB2 := hide (hK.through HB1.out (fun j h => (HR1.out.ge j h).1) HB1.out.size)
            have HNn := hide hN
            rw [show errOf false = 0 from rfl]
            clear hK hN HN2 HR1 HB1
            go_wp2_with fail
            refine (err_any t2 _ _ _ _ _ HNn.out).mono ?_
            rintro e t2 ⟨rfl, rfl⟩
            rw [show errOf false = 0 from rfl]
            have HAW := hide (awake_any t2 (ht.below HB2.out h2))
            go_wp2_with fail
            refine HAW.out.mono ?_
            rintro e t3 ⟨rfl, hB5⟩
            have HB5 := hide (HB2.out.trans (hB5.mono HB2.out.size))
            clear hB5
            go_wp2_with fail
            go_ret
            exact ⟨rfl, HB5.out⟩
end Go.Proofs.YtdlhengfhmkpdaaDoor
