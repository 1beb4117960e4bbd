/- The law CodeWrites, walked. -/
import Derived.Test.YtjcdmffjpkckoaaDoorCdMeant
import Derived.Test.YtjcdmffjpkckoaaDoorCdPutE
import Derived.Test.YtjcdmffjpkckoaaDoorCdAwake
import Derived.Deep.RegionHeld3
import Derived.Deep.MidRow
namespace Go.Proofs.YtjcdmffjpkckoaaDoor
open Go.RowKit

/-- A byte stored into a row of the call's own. -/
theorem Row.set {W : World} {B g n c : Nat} {xs : List Int} (h : Row W B (.slice (some ⟨g, 0, none⟩) n c) xs) (i : Nat) (hi : i < n) (z : Int) : Row (W.setCell ⟨g, i, none⟩ (.int .u8 z)) B (.slice (some ⟨g, 0, none⟩) n c) (xs.set i z) ∧ W.frozen? ⟨g, i, none⟩ = false := by
  obtain ⟨h1, h2 | ⟨g', cap, cur, e1, e2, e3, e4, e5, e6, e7⟩⟩ := h
  · cases h2.1
  · injection e1 with a1 a2 a3
    injection a1 with a1
    injection a1 with a1 _ _
    subst a1 a3
    have hn : xs.length = n := a2.symm
    refine ⟨⟨by simp, .inr ⟨g, c, cur.setIfInBounds i (.int .u8 z), by rw [List.length_set, hn], e2, heap_setCell_same W g i cur _ _ e3, by rw [List.length_set]; exact e4, e5, by simpa using e6, ?_⟩⟩, frozen_of_row W g i _ _ e3⟩
    rw [Array.toList_setIfInBounds, List.length_set, List.take_set, e7, List.map_set]

theorem Row.own {W : World} {B : Nat} {v : Value} {xs : List Int} (h : Row W B v xs) : v = .slice none 0 0 ∧ xs = [] ∨ ∃ g c, v = .slice (some ⟨g, 0, none⟩) xs.length c := by
  obtain ⟨h1, h2 | ⟨g', cap, cur, e1, _⟩⟩ := h
  · exact .inl ⟨h2.1, List.length_eq_zero_iff.1 h2.2⟩
  · exact .inr ⟨g', cap, e1⟩

/-- What an append of the row v leaves of a writer beside it. -/
theorem Wr.beside {W w' : World} {B g : Nat} {F : Nat → Prop} {xs : List Int} {v v' : Value} (h : Wr W B F g xs) (hk : Keep (fun k => v.ownBlock = some k) W w') (ho : Off F v) (ha : v'.ownBlock = v.ownBlock ∨ v'.ownBlock = some W.heap.size) : Wr w' B F g xs ∧ Off F v' := by
  refine ⟨h.keep hk (fun k hf he => ho k he hf), fun k e hf => ?_⟩
  rcases ha with h1 | h1
  · exact ho k (h1 ▸ e) hf
  · rw [h1] at e
    injection e with e
    have := (h.ge k hf).2
    omega
theorem Off.up {F : Nat → Prop} {W w' : World} {B : Nat} {v : Value} {xs : List Int} (h : Off F v) (hr : Row W B v xs) : Off (Up F W w') v := fun k e hk => by
  rcases hk with hk | hk
  · exact h k e hk
  · have := hr.lt e; omega

set_option maxRecDepth 100000 in
set_option maxHeartbeats 8000000 in
theorem writes_walk (l : List Fld) (ns : List Nat) (lv nv : Value) (w : World) (ht : Tab w) (hlv : FAt w lv l) (hl : ∀ f ∈ l, f.ok) (hnv : NAt w nv ns) (hns : ∀ x ∈ ns, x < 18446744073709551616) :
    Calls Tryd.prog 3 #[lv, nv] w (LawPost w) := by
  have h2 := ht.two
  obtain ⟨al, capl, rfl⟩ := hlv.len
  obtain ⟨an, capn, rfl⟩ := hnv.len
  have HL := hide (long_any l _ w hlv hl)
  have HAW0 := hide (awake_any w ht)
  have HF := hide hlv
  have HNV := hide hnv
  have HNS := hide hns
  have HOK := hide hl
  obtain ⟨n, hn⟩ : ∃ n, n = l.length := ⟨_, rfl⟩
  obtain ⟨m, hm⟩ : ∃ m, m = ns.length := ⟨_, rfl⟩
  have HN := tuck hn
  have HM := tuck hm
  rw [← hn] at HF HL ⊢
  rw [← hm] at HNV ⊢
  clear hlv hl hnv hns hn hm
  by_cases hlong : 1000 < cnt l
  · rw [decide_eq_true hlong] at HL
    clear hlong
    go_enter Tryd.func3, Tryd.ntmps3
    go_wp2_with fail
    refine HL.out.mono ?_
    rintro e w ⟨rfl, rfl⟩
    go_wp2_with fail
    refine HAW0.out.mono ?_
    rintro e w1 ⟨rfl, hB⟩
    go_wp2_with fail
    go_ret
    exact ⟨rfl, hB⟩
  rw [decide_eq_false hlong] at HL
  have hn1000 : n ≤ 1000 := by have := cnt_len l; have := HN.out; omega
  have HSZ : Hid (∀ f ∈ l, f.s.size ≤ 100000000) := hide (fun f hf => by have := size_in l f hf; omega)
  have HXL : Tuck ((fieldsS l).length ≤ 100000) := tuck (by have := fieldsS_cnt l; omega)
  clear hlong
  by_cases hbig : 300 < m
  · have hbi : (m : Int) > 300 := by omega
    go_enter Tryd.func3, Tryd.ntmps3
    go_wp2_with fail
    refine HL.out.mono ?_
    rintro e w ⟨rfl, rfl⟩
    go_wp2_with fail
    refine HAW0.out.mono ?_
    rintro e w1 ⟨rfl, hB⟩
    go_wp2_with fail
    go_ret
    exact ⟨rfl, hB⟩
  have hbi : ¬ (m : Int) > 300 := by omega
  go_enter Tryd.func3, Tryd.ntmps3
  go_wp2_with fail
  refine HL.out.mono ?_
  rintro e w ⟨rfl, rfl⟩
  clear HL HAW0
  go_wp2_with fail
  refine (newWriter_iv w).mono ?_
  rintro e w1 ⟨gw, rfl, hB1, hW1⟩
  have HW1 := hide hW1
  have HB1 := hide hB1
  clear hB1 hW1
  go_wp2_with fail
  go_loopw [6, 7] (fun a i wr => ∃ k : Nat, k ≤ n ∧ i = .int .i64 k ∧ ∃ Fw : Nat → Prop, Hid (Wr wr w.heap.size Fw gw (fieldsS (l.take k))) ∧ Hid (Row wr w.heap.size a (fieldsS (l.take k))) ∧ Hid (Off Fw a) ∧ Hid (Below w.heap.size w wr))
    (fun _ i _ => n - (intOf i).toNat)
  case atStart => exact ⟨0, by omega, rfl, _, HW1, hide (Row.nil _ _), hide (fun k e => by simp [Value.ownBlock] at e), HB1⟩
  case round =>
    clear HW1 HB1
    obtain ⟨k, hk, rfl, Fw, HW, HR, HO, HB⟩ := hrel
    obtain ⟨ar, cr, hvr⟩ := HR.out.slAt.len
    subst hvr
    by_cases hlt : k < n
    · obtain ⟨fb, fo, rfl, hfb, e0, e1, e2, e3, e4⟩ := HF.out.at hlt
      have HC0 := hide e0
      have HC1 := hide e1
      have HC2 := hide e2
      have HC3 := hide e3
      have HC4 := hide e4
      clear e0 e1 e2 e3 e4
      have hkl : k < l.length := by rw [← HN.out]; exact hlt
      have hmem : l.getD k default ∈ l := by simp [List.getD, hkl]
      have HOKf := hide (HOK.out _ hmem)
      have HSZf := hide (HSZ.out _ hmem)
      have HSU : Tuck (fieldsS (l.take (k + 1)) = fieldsS (l.take k) ++ fieldS (l.getD k default)) := tuck (fieldsS_succ l k hkl)
      have HXk : Tuck ((fieldsS (l.take k)).length ≤ 100000) := tuck (by have := fieldsS_take_le l k; have := HXL.out; omega)
      clear hmem hkl
      obtain ⟨f, hff⟩ : ∃ f, l.getD k default = f := ⟨_, rfl⟩
      rw [hff] at HC0 HC1 HC2 HC3 HC4 HOKf HSZf HSU
      clear hff
      obtain ⟨X, hX⟩ : ∃ X, fieldsS (l.take k) = X := ⟨_, rfl⟩
      rw [hX] at HSU HXk HW HR HO ⊢
      clear hX
      obtain ⟨lx, hlx⟩ : ∃ lx, X.length = lx := ⟨_, rfl⟩
      have HLX := tuck hlx
      rw [hlx] at HR HO ⊢
      clear hlx
      have HA := hide (write_any f HOKf.out wr w.heap.size Fw gw X (ht.below HB.out h2) h2 HW.out (by have := HXk.out; have := HSZf.out; omega))
      have HMN := hide (fun W => meant_any f HOKf.out HSZf.out W)
      unfold Fld.val at HA HMN
      have ya := (HB.out.cell (p := ⟨fb, fo + k * 5, none⟩) hfb).trans HC0.out
      have yb := (HB.out.cell (p := ⟨fb, fo + k * 5 + 1, none⟩) hfb).trans HC1.out
      have yc := (HB.out.cell (p := ⟨fb, fo + k * 5 + 2, none⟩) hfb).trans HC2.out
      have yd := (HB.out.cell (p := ⟨fb, fo + k * 5 + 3, none⟩) hfb).trans HC3.out
      have ye := (HB.out.cell (p := ⟨fb, fo + k * 5 + 4, none⟩) hfb).trans HC4.out
      go_wp2_with fail
      refine HA.out.mono ?_
      intro e u1 hp
      obtain ⟨rfl, hK1, hN1⟩ := hp
      have HB1 := hide (hK1.through HB.out (fun j hj => (HW.out.ge j hj).1) HB.out.size)
      have HW1 := hide hN1
      have HR1 := hide (HR.out.keep hK1 HO.out)
      have HO1 := hide (Off.up (w' := u1) HO.out HR.out)
      clear hK1 hN1 HA ya yb yc yd ye
      have ya := (HB1.out.cell (p := ⟨fb, fo + k * 5, none⟩) hfb).trans HC0.out
      have yb := (HB1.out.cell (p := ⟨fb, fo + k * 5 + 1, none⟩) hfb).trans HC1.out
      have yc := (HB1.out.cell (p := ⟨fb, fo + k * 5 + 2, none⟩) hfb).trans HC2.out
      have yd := (HB1.out.cell (p := ⟨fb, fo + k * 5 + 3, none⟩) hfb).trans HC3.out
      have ye := (HB1.out.cell (p := ⟨fb, fo + k * 5 + 4, none⟩) hfb).trans HC4.out
      go_wp2_with fail
      refine (HMN.out _).mono ?_
      rintro e u2 ⟨vm, rfl, hvm, hB2⟩
      have HB2 := hide (HB1.out.trans (hB2.mono HB1.out.size))
      have HW2 := hide (HW1.out.keep (Keep.of_below hB2 : Keep (fun _ => False) u1 u2) (fun _ _ => id))
      have HR2 := hide (HR1.out.below hB2)
      obtain ⟨v', w', hrun, hrow, hk2, hat⟩ := append_keep u2 w.heap.size _ X HR2.out vm (fieldS f) hvm (by have := HXk.out; have := fieldS_len f; have := HSZf.out; omega) HB2.out.size
      obtain ⟨HW3, HO3⟩ := HW2.out.beside hk2 HO1.out hat
      have HB3 := hide (hk2.through HB2.out (fun j hj => HR2.out.ge hj) HB2.out.size)
      rw [← HSU.out] at hrow HW3
      have HW3 := hide HW3
      have HO3 := hide HO3
      have HR3 := hide hrow
      obtain ⟨am, cm, rfl⟩ := hvm.len
      obtain ⟨a3, c3, hv3⟩ := HR3.out.slAt.len
      obtain ⟨lm, hlm⟩ : ∃ lm, (fieldS f).length = lm := ⟨_, rfl⟩
      rw [hlm] at hrun ⊢
      obtain ⟨l3, hl3⟩ : ∃ l3, (fieldsS (l.take (k + 1))).length = l3 := ⟨_, rfl⟩
      rw [hl3] at hv3
      subst hv3
      clear hvm hB2 hrow hk2 hat hlm hl3 HMN HB2 HW2 HR2 ya yb yc yd ye
      go_wp2_with (first | (at_builtin; with_reducible refine wpList_append_run rfl (.tmp 32) (.tmp 37) 28 28 28 rfl rfl (.slice ar lx cr) (.slice am lm cm) _ w' rfl rfl hrun ?_))
      go_roundw
      case rel => exact ⟨k + 1, by omega, by go_num, _, HW3, HR3, HO3, HB3⟩
      case measure => simp [intOf]; omega
    · obtain rfl : k = n := by omega
      have hle0 := fieldsS_take_le l k
      have hle1 := HXL.out
      obtain ⟨X, hX⟩ : ∃ X, fieldsS (l.take k) = X := ⟨_, rfl⟩
      rw [hX] at HW HR HO hle0 ⊢
      have HXX : Tuck (X.length ≤ 100000) := tuck (by omega)
      clear hX hle0 hle1 HXL
      obtain ⟨lx, hlx⟩ : ∃ lx, X.length = lx := ⟨_, rfl⟩
      have HLX := tuck hlx
      rw [hlx] at HR HO ⊢
      clear hlx
      have HOFN : Hid (ns ≠ [] → Off Fw (.slice an m capn)) := hide (fun hne j e hj => by
        have h1 := (HW.out.ge j hj).1
        have hm0 : 0 < m := by have := HM.out; have : ns.length ≠ 0 := fun e => hne (List.length_eq_zero_iff.1 e); omega
        obtain ⟨ao', cap', hv, hnn, haa⟩ := HNV.out
        injection hv with x1 x2 x3
        subst x1
        cases hao : an with
        | none => rw [hao] at e; simp [Value.ownBlock] at e
        | some ad =>
          have := (haa ad hao 0 (by omega)).2.1
          rw [hao] at e
          simp [Value.ownBlock] at e
          omega)
      have HP := hide (put_anyE ns _ wr w.heap.size Fw gw X (ht.below HB.out h2) h2 HW.out (by have := HNV.out.keep (Keep.of_below HB.out : Keep (fun _ => False) w wr) (fun _ _ => id); exact this) HOFN.out HNS.out (by have := HXX.out; have := HM.out; omega))
      have hBs := HB.out.size
      go_wp2_with fail
      refine HP.out.mono ?_
      intro e u1 hp
      obtain ⟨rfl, hK1, hN1⟩ := hp
      have HB1 := hide (hK1.through HB.out (fun j hj => (HW.out.ge j hj).1) HB.out.size)
      have HW1 := hide hN1
      have HR1 := hide (HR.out.keep hK1 HO.out)
      have HO1 := hide (Off.up (w' := u1) HO.out HR.out)
      obtain ⟨Fp, hFp⟩ : ∃ Fp, Up Fw wr u1 = Fp := ⟨_, rfl⟩
      rw [hFp] at HW1 HO1
      clear hK1 hN1 HP HW HR HO HB hFp hBs HOFN
      go_wp2_with fail
      go_loopw [6, 8] (fun a i wr => ∃ j : Nat, j ≤ m ∧ i = .int .i64 j ∧ Hid (Wr wr w.heap.size Fp gw (X ++ putS ns)) ∧ Hid (Row wr w.heap.size a (X ++ putS (ns.take j))) ∧ Hid (Off Fp a) ∧ Hid (Below w.heap.size w wr))
        (fun _ i _ => m - (intOf i).toNat)
      case atStart => exact ⟨0, by omega, rfl, HW1, hide (by simpa [putS] using HR1.out), HO1, HB1⟩
      case round =>
        clear HW1 HR1 HO1 HB1
        obtain ⟨j, hj, rfl, HW, HR, HO, HB⟩ := hrel
        obtain ⟨ar2, cr2, hvr⟩ := HR.out.slAt.len
        subst hvr
        by_cases hlt2 : j < m
        · obtain ⟨ad, rfl, hs, hc⟩ := (HNV.out.keep (Keep.of_below HB.out : Keep (fun _ => False) w wr) (fun _ _ => id)).cell hlt2
          have hlj : j < ns.length := by rw [← HM.out]; exact hlt2
          have hx : ns.getD j 0 < 18446744073709551616 := HNS.out _ (by simp [List.getD, hlj])
          have HPS := tuck (putS_succ ns j hlj)
          have HPL : Tuck ((putS (ns.take j)).length ≤ 3000) := tuck (by have h1 := putS_len (ns.take j); have h2 : (ns.take j).length ≤ j := (by simp; omega); omega)
          have HSH := hide (shortR_any (ns.getD j 0) hx wr)
          have hul := uintS_len (ns.getD j 0)
          obtain ⟨x, hxx⟩ : ∃ x, ns.getD j 0 = x := ⟨_, rfl⟩
          rw [hxx] at hc HPS HSH hul
          clear hx hxx hlj
          obtain ⟨Y, hY⟩ : ∃ Y, X ++ putS (ns.take j) = Y := ⟨_, rfl⟩
          have HYL : Tuck (Y.length ≤ 200000) := tuck (by rw [← hY, List.length_append]; have := HXX.out; have := HPL.out; omega)
          have HYS : Tuck (X ++ putS (ns.take (j + 1)) = Y ++ uintS x) := tuck (by rw [HPS.out, ← hY, List.append_assoc])
          rw [hY] at HR HO ⊢
          clear hY
          obtain ⟨ly, hly⟩ : ∃ ly, Y.length = ly := ⟨_, rfl⟩
          rw [hly] at HR HO ⊢
          have HLY := tuck hly
          clear hly
          go_wp2_with fail
          refine HSH.out.mono ?_
          rintro e v1 ⟨vm, rfl, hvm, hB2⟩
          have HB2 := hide (HB.out.trans (hB2.mono HB.out.size))
          have HW2 := hide (HW.out.keep (Keep.of_below hB2 : Keep (fun _ => False) wr v1) (fun _ _ => id))
          have HR2 := hide (HR.out.below hB2)
          obtain ⟨v', w', hrun, hrow, hk2, hat⟩ := append_keep v1 w.heap.size _ Y HR2.out vm (uintS x) hvm.slAt (by have := HYL.out; omega) HB2.out.size
          obtain ⟨HW3, HO3⟩ := HW2.out.beside hk2 HO.out hat
          have HB3 := hide (hk2.through HB2.out (fun j hj => HR2.out.ge hj) HB2.out.size)
          rw [← HYS.out] at hrow
          have HW3 := hide HW3
          have HO3 := hide HO3
          have HR3 := hide hrow
          obtain ⟨am, cm, rfl⟩ := hvm.slAt.len
          obtain ⟨a3, c3, hv3⟩ := HR3.out.slAt.len
          obtain ⟨lm, hlm⟩ : ∃ lm, (uintS x).length = lm := ⟨_, rfl⟩
          rw [hlm] at hrun ⊢
          obtain ⟨l3, hl3⟩ : ∃ l3, (X ++ putS (ns.take (j + 1))).length = l3 := ⟨_, rfl⟩
          rw [hl3] at hv3
          subst hv3
          clear hvm hB2 hrow hk2 hat hlm hl3 HSH HB2 HW2 HR2 hc hul
          go_wp2_with (first | (at_builtin; with_reducible refine wpList_append_run rfl (.tmp 48) (.tmp 53) 28 28 28 rfl rfl (.slice ar2 ly cr2) (.slice am lm cm) _ w' rfl rfl hrun ?_))
          go_roundw
          case rel => exact ⟨j + 1, by omega, by go_num, HW3, HR3, HO3, HB3⟩
          case measure => simp [intOf]; omega
        · obtain rfl : j = m := by omega
          have htk : ns.take j = ns := by rw [HM.out, List.take_length]
          rw [htk] at HR HO ⊢
          have hpl := putS_len ns
          obtain ⟨Z, hZ⟩ : ∃ Z, X ++ putS ns = Z := ⟨_, rfl⟩
          have HZL : Tuck (Z.length ≤ 200000) := tuck (by rw [← hZ, List.length_append]; have := HXX.out; have := HM.out; omega)
          rw [hZ] at HR HO HW ⊢
          clear hZ htk hpl HXX HLX
          obtain ⟨lz, hlz⟩ : ∃ lz, Z.length = lz := ⟨_, rfl⟩
          have hlX : Z.length = lz := hlz
          rw [hlz] at HR HO ⊢
          have HLZ := tuck hlz
          have hlz5 : lz ≤ 200000 := by rw [← hlz]; exact HZL.out
          clear hlz hlX
          have HBY0 := hide (bytes_any wr _ _ _ _ HW.out (by have := HZL.out; omega))
          go_wp2_with fail
          refine HBY0.out.mono ?_
          rintro e v1 ⟨vb, rfl, hvb, hB2⟩
          have HB2 := hide (HB.out.trans (hB2.mono HB.out.size))
          have HW2 := hide (HW.out.keep (Keep.of_below hB2 : Keep (fun _ => False) wr v1) (fun _ _ => id))
          have HR2 := hide (HR.out.below hB2)
          have hst1 := hvb.str
          have hst2 := HR2.out.str
          obtain ⟨ab, cb, hvb2⟩ := hvb.slAt.len
          rw [HLZ.out] at hvb2
          subst hvb2
          have HVB := hide (hvb.base HB.out.size)
          have HGE : Hid (∀ j, (Value.slice ab lz cb).ownBlock = some j → ¬ Fp j ∧ (Value.slice ar2 lz cr2).ownBlock ≠ some j ∧ w.heap.size ≤ j) := hide (fun j e => by
            have h1 := hvb.ge e
            refine ⟨fun hf => ?_, fun e2 => ?_, Nat.le_trans HB.out.size h1⟩
            · have := (HW.out.ge j hf).2; omega
            · have := HR.out.lt e2; omega)
          generalize strOfNums Z = st at hst1 hst2
          clear hvb hB2 HBY0 HW HR HB
          go_wp2_with fail
          clear hst1 hst2
          go_loopw [10] (fun i wr => ∃ q : Nat, q ≤ lz ∧ i = .int .i64 q ∧ ∃ ys : List Int, Tuck (ys.length = lz) ∧ Hid (Row wr w.heap.size (.slice ab lz cb) ys) ∧ Hid (Keep (fun j => (Value.slice ab lz cb).ownBlock = some j) v1 wr))
            (fun i _ => lz - (intOf i).toNat)
          case atStart => exact ⟨0, by omega, rfl, Z, HLZ, HVB, hide (Keep.refl _ _)⟩
          case round =>
            clear HVB
            obtain ⟨q, hq, rfl, ys, HYL, HRB, HKB⟩ := hrel
            by_cases hlt3 : q < lz
            · obtain ⟨gb, rfl⟩ : ∃ gb, ab = some ⟨gb, 0, none⟩ := by
                rcases HRB.out.own with ⟨e1, e2⟩ | ⟨g, c, e1⟩
                · have := HYL.out; rw [e2] at this; simp at this; omega
                · injection e1 with e1 _ _; exact ⟨g, e1⟩
              have hc : wr.cell? ⟨gb, q, none⟩ = some (.int .u8 (nth ys q)) := by
                obtain ⟨ao', cap', hv, _, _, ha⟩ := HRB.out.slAt
                injection hv with x1 x2 x3
                have := (ha _ x1.symm q (by rw [HYL.out]; exact hlt3)).2.2
                rw [addr_plain', Nat.zero_add] at this
                exact this
              obtain ⟨y, hy⟩ : ∃ y, nth ys q = y := ⟨_, rfl⟩
              rw [hy] at hc
              obtain ⟨z, hz⟩ : ∃ z, IntKind.u8.wrap (y + 1) = z := ⟨_, rfl⟩
              obtain ⟨hrs, hf⟩ := HRB.out.set q hlt3 z
              have HRS := hide hrs
              have HKS := hide (HKB.out.trans (Keep.set (F := fun j => (Value.slice (some ⟨gb, 0, none⟩) lz cb).ownBlock = some j) wr ⟨gb, q, none⟩ (.int .u8 z) rfl) (fun _ h => .inl h))
              have HYS : Tuck ((ys.set q z).length = lz) := tuck (by rw [List.length_set, HYL.out])
              clear hrs hy HRB HKB
              go_wp2_with fail
              go_roundw
              case rel => exact ⟨q + 1, by omega, by go_num, _, HYS, HRS, HKS⟩
              case measure => simp [intOf]; omega
            · obtain rfl : q = lz := by omega
              have HWz := hide (HW2.out.keep HKB.out (fun j hf he => (HGE.out j he).1 hf))
              have HRz := hide (HR2.out.keep HKB.out (fun j e he => (HGE.out j he).2.1 e))
              have HBz := hide (HKB.out.through HB2.out (fun j he => (HGE.out j he).2.2) HB2.out.size)
              have HWD := hide (show SlAt wr.drew _ _ from HRz.out.slAt)
              have HBY := hide (bytes_any wr.drew _ _ _ _ (HWz.out.keep (Keep.drew (fun _ => False) wr) (fun _ _ => id)) (by have := HZL.out; omega))
              clear HRB HKB HWz HRz HW2 HR2 HB2
              go_wp2_with fail
              refine wp_region_held_drew (S := fun w' => SlAt w' (.slice ar2 q cr2) Z) (by kernel_rfl) HWD.out (fun hHeld => ?_)
              refine wpAnyH_take (i := 0) (oi := { dst := some 74, op := Op.move (Operand.tmp 5), type := 26, pos := "law.go:100", after := #[], guard := none }) (v := ?_) rfl (by kernel_rfl) (by kernel_rfl) (by kernel_rfl) (fun _ _ _ h => h) (Or.inl ⟨by rfl, ?_⟩) hHeld ?_
              rotate_left
              · intro w hSw; (try dsimp only at hSw); go_simp; first | done | with_reducible rfl
              try simp only [Act.put, List.setIfInBounds_toArray, List.set_cons_zero, List.set_cons_succ]
              refine wpAnyH_take (i := 3) (oi := { dst := some 77, op := Op.move (Operand.tmp 6), type := 28, pos := "law.go:100", after := #[], guard := none }) (v := ?_) rfl (by kernel_rfl) (by kernel_rfl) (by kernel_rfl) (fun _ _ _ h => h) (Or.inl ⟨by rfl, ?_⟩) hHeld ?_
              rotate_left
              · intro w hSw; (try dsimp only at hSw); go_simp; first | done | with_reducible rfl
              try simp only [Act.put, List.setIfInBounds_toArray, List.set_cons_zero, List.set_cons_succ]
              refine wpAnyH_take (i := 4) (oi := { dst := some 78, op := Op.convert 28 9 (Operand.tmp 77), type := 9, pos := "law.go:100", after := #[{ on := 3, ground := Ground.data }], guard := none }) (v := ?_) rfl (by kernel_rfl) (by kernel_rfl) (by kernel_rfl) (fun _ _ _ h => h) (Or.inl ⟨by rfl, ?_⟩) hHeld ?_
              rotate_left
              · intro w hSw; (try dsimp only at hSw); (have hcw := hSw.string (P := Tryd.prog) 28 5 9 Tryd.underlying28 Tryd.underlying5 Tryd.underlying9); go_simp; first | done | with_reducible rfl
              try simp only [Act.put, List.setIfInBounds_toArray, List.set_cons_zero, List.set_cons_succ]
              refine wpAnyH_ready (rs := [1]) (by kernel_rfl) (by simp) ?_
              refine AllReadyH.cons (o := { dst := some 75, op := Op.call { callee := Callee.value (Operand.func 18), args := #[Operand.tmp 74], argTypes := #[26] }, type := 28, pos := "law.go:100", after := #[{ on := 0, ground := Ground.data }], guard := none }) rfl (fun K hK => ?_) AllReadyH.nil
              clear hHeld
              go_simp
              refine HBY.out.mono ?_
              rintro e z1 ⟨vc, rfl, hrowc, hB⟩
              have HB1 := hide (HBz.out.drew.trans (hB.mono HBz.out.size))
              have hstc := hrowc.str
              obtain ⟨ac, cc, hvc⟩ := hrowc.slAt.len
              rw [HLZ.out] at hvc
              subst hvc
              have HWz1 := hide (HWD.out.below hB)
              have HAW := hide (awake_any z1 (ht.below HB1.out h2))
              dsimp only
              refine hK.out _ _ (HWD.out.below hB) (fun hHeld => ?_)
              clear hK K
              try simp only [Act.put, List.setIfInBounds_toArray, List.set_cons_zero, List.set_cons_succ]
              refine wpAnyH_ready (rs := [2]) (by kernel_rfl) (by simp) ?_
              refine AllReadyH.cons (o := { dst := some 76, op := Op.convert 28 9 (Operand.tmp 75), type := 9, pos := "law.go:100", after := #[{ on := 1, ground := Ground.data }], guard := none }) rfl (fun K hK => ?_) AllReadyH.nil
              clear hHeld
              go_simp
              refine hK.out _ _ (HWz1.out) (fun hHeld => ?_)
              clear hK K
              try simp only [Act.put, List.setIfInBounds_toArray, List.set_cons_zero, List.set_cons_succ]
              refine wpAnyH_take (i := 5) (oi := { dst := some 79, op := Op.binOp BinOp.eql 9 (Operand.tmp 76) (Operand.tmp 78) 9, type := 4, pos := "law.go:100", after := #[{ on := 2, ground := Ground.data }, { on := 4, ground := Ground.data }], guard := none }) (v := ?_) rfl (by kernel_rfl) (by kernel_rfl) (by kernel_rfl) (fun _ _ _ h => h) (Or.inl ⟨by rfl, ?_⟩) hHeld ?_
              rotate_left
              · intro w hSw; (try dsimp only at hSw); go_simp; first | done | with_reducible rfl
              try simp only [Act.put, List.setIfInBounds_toArray, List.set_cons_zero, List.set_cons_succ]
              refine wpAnyH_take (i := 6) (oi := { dst := some 80, op := Op.move (Operand.tmp 79), type := 4, pos := "law.go:100", after := #[{ on := 5, ground := Ground.data }, { on := 1, ground := Ground.chain }], guard := none }) (v := ?_) rfl (by kernel_rfl) (by kernel_rfl) (by kernel_rfl) (fun _ _ _ h => h) (Or.inl ⟨by rfl, ?_⟩) hHeld ?_
              rotate_left
              · intro w hSw; (try dsimp only at hSw); go_simp; first | done | with_reducible rfl
              try simp only [Act.put, List.setIfInBounds_toArray, List.set_cons_zero, List.set_cons_succ]
              refine wpAnyH_ready (rs := [7]) (by kernel_rfl) (by simp) ?_
              refine AllReadyH.cons (o := { dst := some 81, op := Op.call { callee := Callee.value (Operand.func 12), args := #[], argTypes := #[] }, type := 4, pos := "law.go:100", after := #[{ on := 6, ground := Ground.chain }, { on := 6, ground := Ground.guard }], guard := some (6, true) }) rfl (fun K hK => ?_) AllReadyH.nil
              clear hHeld
              go_simp
              refine HAW.out.mono ?_
              rintro e z2 ⟨rfl, hB3⟩
              have HB3 := hide hB3
              dsimp only
              refine hK.out _ _ (HWz1.out.below hB3) (fun hHeld => ?_)
              clear hK K
              try simp only [Act.put, List.setIfInBounds_toArray, List.set_cons_zero, List.set_cons_succ]
              refine wpAnyH_take (i := 8) (oi := { dst := some 82, op := Op.pick (Operand.tmp 80) (Operand.tmp 81) (Operand.const (Value.bool false)), type := 4, pos := "law.go:100", after := #[{ on := 6, ground := Ground.data }, { on := 7, ground := Ground.data }], guard := none }) (v := ?_) rfl (by kernel_rfl) (by kernel_rfl) (by kernel_rfl) (fun _ _ _ h => h) (Or.inl ⟨by rfl, ?_⟩) hHeld ?_
              rotate_left
              · intro w hSw; (try dsimp only at hSw); go_simp; first | done | with_reducible rfl
              try simp only [Act.put, List.setIfInBounds_toArray, List.set_cons_zero, List.set_cons_succ]
              refine wpAnyH_take (i := 9) (oi := { dst := some 4, op := Op.assign (Operand.tmp 82), type := 4, pos := "law.go:100", after := #[{ on := 8, ground := Ground.data }, { on := 7, ground := Ground.chain }, { on := 0, ground := Ground.phase }, { on := 1, ground := Ground.phase }, { on := 2, ground := Ground.phase }, { on := 3, ground := Ground.phase }, { on := 4, ground := Ground.phase }, { on := 5, ground := Ground.phase }, { on := 6, ground := Ground.phase }, { on := 7, ground := Ground.phase }, { on := 8, ground := Ground.phase }], guard := none }) (v := ?_) rfl (by kernel_rfl) (by kernel_rfl) (by kernel_rfl) (fun _ _ _ h => h) (Or.inl ⟨by rfl, ?_⟩) hHeld ?_
              rotate_left
              · intro w hSw; (try dsimp only at hSw); go_simp; first | done | with_reducible rfl
              try simp only [Act.put, List.setIfInBounds_toArray, List.set_cons_zero, List.set_cons_succ]
              refine wpAnyH_done (by kernel_rfl) ?_ _
              go_wp2_with fail
              go_ret
              exact ⟨rfl, HB1.out.trans (HB3.out.mono HB1.out.size)⟩
end Go.Proofs.YtjcdmffjpkckoaaDoor
