/- The law CodeCut, walked. -/
import Derived.Test.YtjcdmffjpkckoaaDoorCdCutP
import Derived.Deep.DeepCutAuto
namespace Go.Proofs.YtjcdmffjpkckoaaDoor
open Go.RowKit

set_option maxRecDepth 100000 in
set_option maxHeartbeats 8000000 in
theorem cut_walk (l : List Fld) (cut : Int) (lv : Value) (w : World) (ht : Tab w) (hlv : FAt w lv l) (hl : ∀ f ∈ l, f.ok) (_ : (Lit.int .i64 cut).wf = true) :
    Calls Tryd.prog 6 #[lv, .int .i64 cut] w (LawPost w) := by
  have h2 := ht.two
  obtain ⟨al, capl, rfl⟩ := hlv.len
  have HL := hide (long_any l _ w hlv hl)
  have HAW0 := hide (awake_any w ht)
  have HF := hide hlv
  have HOK := hide hl
  obtain ⟨n, hn⟩ : ∃ n, n = l.length := ⟨_, rfl⟩
  rw [← hn] at HF HL ⊢
  have HN := tuck hn
  by_cases hlong : 1000 < cnt l
  · rw [decide_eq_true hlong] at HL
    clear hn hlv hl hlong
    go_enter Tryd.func6, Tryd.ntmps6
    go_wp2_with fail
    refine HL.out.mono ?_
    rintro e w ⟨rfl, rfl⟩
    go_wp2_with fail
    refine HAW0.out.mono ?_
    rintro e w1 ⟨rfl, hB⟩
    go_wp2_with fail
    go_ret
    exact ⟨rfl, hB⟩
  rw [decide_eq_false hlong] at HL
  have hc := fieldsS_cnt l
  have HW := hide (written_any l _ w ht hlv hl (by omega) (fun f hf => by have := size_in l f hf; omega) (by have := cnt_len l; omega))
  have HSZ : Hid (∀ f ∈ l, f.s.size ≤ 100000000) := hide (fun f hf => by have := size_in l f hf; omega)
  have HRG := hide (fieldsS_range l hl)
  have HXL : Hid ((fieldsS l).length ≤ 100000) := hide (by omega)
  have hn1000 : n ≤ 1000 := by have := cnt_len l; omega
  rw [← hn] at HW
  clear hlong hc hlv hl hn
  go_enter Tryd.func6, Tryd.ntmps6
  go_wp2_with fail
  refine HL.out.mono ?_
  rintro e w ⟨rfl, rfl⟩
  go_wp2_with fail
  refine HW.out.mono ?_
  rintro e w1 ⟨v, rfl, hrow, hB1⟩
  obtain ⟨ao, cap, rfl⟩ := hrow.slAt.len
  have HS1 := hide hrow.slAt
  have HB1 := hide hB1
  clear hrow hB1 HW HL HAW0
  obtain ⟨N, hNN⟩ : ∃ N, N = (fieldsS l).length := ⟨_, rfl⟩
  have HNX := tuck hNN
  have hN5 : N ≤ 100000 := by rw [hNN]; exact HXL.out
  rw [← hNN] at HS1 ⊢
  clear hNN
  obtain ⟨K, hK, a, ha, hKe⟩ := clampK cut N
  have HA := hide ha
  have HKE := hide hKe
  clear ha hKe
  have hsl := run_cut_hk (P := Tryd.prog) .i64 Tryd.underlying28 size5 ao N cap K (by have := HS1.out.le.1; omega)
  have HNR := hide (newReader_any _ ((fieldsS l).take K) w1 (HS1.out.front' hK) (by simp; omega))
  go_upto_region 4 with fail
  go_cut [6] (fun s6 W => s6 = .int .i64 (K : Nat) ∧ W = w1)
  case first =>
    go_wp2_with fail
    all_goals go_meet
    all_goals
      refine ⟨?_, rfl⟩
      have h1 := HA.out
      have h2 := HKE.out
      congr 1
      (repeat' split at h1) <;> (repeat' split at h2) <;> omega
  case rest =>
    obtain ⟨hs6, hw6⟩ := hcut
    subst hs6 hw6
    clear HA HKE a
    go_wp2_with fail
    refine HNR.out.mono ?_
    rintro e w2 ⟨g, rfl, hB2, hR⟩
    have HB2 := hide (HB1.out.trans (hB2.mono HB1.out.size))
    have hle := HB1.out.size
    obtain ⟨F, hF⟩ : ∃ F : Nat → Prop, F = fun k => wc.heap.size ≤ k ∧ k < w2.heap.size := ⟨_, rfl⟩
    obtain ⟨B0, hB0⟩ : ∃ B0, B0 = wc.heap.size := ⟨_, rfl⟩
    rw [← hF, ← hB0] at hR
    have HFB : Hid (∀ k, F k → w.heap.size ≤ k) := hide (by rw [hF]; exact fun k h => Nat.le_trans hle h.1)
    have HR2 : Hid (Rd w2 B0 F g (((fieldsS l).take K).drop (upTo l 0)) false) := hide (by rw [show upTo l 0 = 0 by simp [upTo, fieldsS], List.drop_zero]; exact hR)
    clear hB2 hR hF hB0 hle HNR HS1 HB1 hsl
    go_wp2_with fail
    go_loopw [8, 9] (fun a i wr => ∃ k at_ : Nat, k ≤ n ∧ i = .int .i64 k ∧ a = .int .i64 at_ ∧ Tuck (at_ = upTo l k) ∧ at_ ≤ K ∧ Hid (Rd wr B0 F g (((fieldsS l).take K).drop (upTo l k)) false) ∧ Hid (Below w.heap.size w wr))
      (fun _ i _ => n - (intOf i).toNat)
    case atStart => exact ⟨0, 0, by omega, rfl, rfl, tuck (by simp [upTo, fieldsS]), by omega, HR2, HB2⟩
    case round =>
      clear HR2 HB2
      obtain ⟨k, at_, hk, rfl, rfl, hat, hle, HRr, HBr⟩ := hrel
      by_cases hlt : k < n
      · obtain ⟨fb, fo, rfl, hfb, e0, e1, e2, e3, e4⟩ := HF.out.at hlt
        have HC0 := hide e0
        have HC1 := hide e1
        have HC2 := hide e2
        have HC3 := hide e3
        have HC4 := hide e4
        clear e0 e1 e2 e3 e4
        have hkl : k < l.length := by rw [← HN.out]; exact hlt
        have hmem : l.getD k default ∈ l := by simp [List.getD, hkl]
        have HOKf := hide (HOK.out _ hmem)
        have HSZf := hide (HSZ.out _ hmem)
        have HUP : Tuck (upTo l (k + 1) = at_ + (fieldS (l.getD k default)).length) := tuck (by rw [upTo_succ l k hkl, hat.out])
        have HCS : Tuck (K < upTo l (k + 1) → ((fieldsS l).take K).drop (upTo l k) = (fieldS (l.getD k default)).take (K - upTo l k)) := tuck (cut_short l k K hkl (by rw [← hat.out]; exact hle))
        have HCW : Tuck (upTo l (k + 1) ≤ K → ((fieldsS l).take K).drop (upTo l k) = fieldS (l.getD k default) ++ ((fieldsS l).take K).drop (upTo l (k + 1))) := tuck (cut_whole l k K hkl)
        have HDL : Tuck ((((fieldsS l).take K).drop (upTo l (k + 1))).length = K - upTo l (k + 1)) := tuck (by have := HNX.out; simp; omega)
        have HLB := hide (fieldS_len (l.getD k default))
        have HRX : Hid (∀ x ∈ ((fieldsS l).take K).drop (upTo l k), 0 ≤ x ∧ x < 256) := hide (fun x hx => HRG.out x (List.mem_of_mem_take (List.mem_of_mem_drop hx)))
        have HLX : Hid ((((fieldsS l).take K).drop (upTo l k)).length ≤ 100000) := hide (by simp; omega)
        have HLE : Tuck (upTo l (k + 1) ≤ K → K ≤ 100000) := tuck (fun _ => by omega)
        clear hmem hkl
        obtain ⟨f, hff⟩ : ∃ f, l.getD k default = f := ⟨_, rfl⟩
        rw [hff] at HC0 HC1 HC2 HC3 HC4 HOKf HSZf HUP HCS HCW HLB
        clear hff
        obtain ⟨T, hT⟩ : ∃ T, upTo l (k + 1) = T := ⟨_, rfl⟩
        have HT := tuck hT
        rw [hT] at HUP HCS HCW HDL HLE
        obtain ⟨Q, hQ⟩ : ∃ Q, ((fieldsS l).take K).drop (upTo l k) = Q := ⟨_, rfl⟩
        rw [hQ] at HCS HCW HRr HRX HLX
        clear hT hQ
        have HSA := hide (size_any f HOKf.out HSZf.out wr (ht.below HBr.out h2))
        obtain ⟨z, hz⟩ : ∃ z, (fieldS f).length = z := ⟨_, rfl⟩
        have HZ := tuck hz
        rw [hz] at HSA HUP HLB
        have hz2 : z ≤ 100000010 := by have := HLB.out; have := HSZf.out; omega
        clear hz
        unfold Fld.val at HSA
        have ya := (HBr.out.cell (p := ⟨fb, fo + k * 5, none⟩) hfb).trans HC0.out
        have yb := (HBr.out.cell (p := ⟨fb, fo + k * 5 + 1, none⟩) hfb).trans HC1.out
        have yc := (HBr.out.cell (p := ⟨fb, fo + k * 5 + 2, none⟩) hfb).trans HC2.out
        have yd := (HBr.out.cell (p := ⟨fb, fo + k * 5 + 3, none⟩) hfb).trans HC3.out
        have ye := (HBr.out.cell (p := ⟨fb, fo + k * 5 + 4, none⟩) hfb).trans HC4.out
        go_wp2_with fail
        refine HSA.out.mono ?_
        rintro e u0 ⟨rfl, hX⟩
        have HR0 := hide (HRr.out.keep (Keep.of_below hX : Keep (fun _ => False) wr u0) (fun _ _ => id))
        have HB0 := hide (HBr.out.trans (hX.mono HBr.out.size))
        clear hX HSA ya yb yc yd ye
        have ya := (HB0.out.cell (p := ⟨fb, fo + k * 5, none⟩) hfb).trans HC0.out
        have yb := (HB0.out.cell (p := ⟨fb, fo + k * 5 + 1, none⟩) hfb).trans HC1.out
        have yc := (HB0.out.cell (p := ⟨fb, fo + k * 5 + 2, none⟩) hfb).trans HC2.out
        have yd := (HB0.out.cell (p := ⟨fb, fo + k * 5 + 3, none⟩) hfb).trans HC3.out
        have ye := (HB0.out.cell (p := ⟨fb, fo + k * 5 + 4, none⟩) hfb).trans HC4.out
        have HT0 := hide (ht.below HB0.out h2)
        by_cases hgt : K < at_ + z
        · have hgi : (at_ : Int) + (z : Int) > (K : Int) := by omega
          have hQe : Q = (fieldS f).take (K - at_) := by
            have := HCS.out (by rw [HUP.out]; exact hgt)
            rw [← hat.out] at this
            exact this
          have HA := hide (answers_short f HOKf.out HSZf.out (K - at_) (by rw [HZ.out]; omega) u0 B0 F g HT0.out (by rw [← hQe]; exact HR0.out) (by rw [← hQe]; exact HRX.out) (by rw [← hQe]; have := HLX.out; omega))
          unfold Fld.val at HA
          clear hQe
          go_wp2_with fail
          refine HA.out.mono ?_
          rintro e v1 ⟨⟨bb, rfl⟩, hK1, hN1⟩
          have HR1 := hide hN1
          have HB1 := hide (hK1.through HB0.out (fun k h => HFB.out k h) HB0.out.size)
          clear hK1 hN1 HA ya yb yc yd ye
          cases bb
          all_goals
            go_wp2_with (first
              | (go_at_call 32; refine (err_any _ _ _ _ _ _ HR1.out).mono ?_; rintro e v1 ⟨rfl, rfl⟩; rw [show errOf true = 2 from rfl]))
            refine (endr_any _ _ _ _ _ _ HR1.out).mono ?_
            rintro e v2 ⟨rfl, hK, hN⟩
            simp only [Bool.true_or]
            rw [show errOf true = 2 from rfl]
            have HBv := hide (hK.through HB1.out (fun k h => HFB.out k h) HB1.out.size)
            have HAW := hide (awake_any v2 (ht.below HBv.out h2))
            clear hK hN
            go_wp2_with fail
            refine HAW.out.mono ?_
            rintro e v3 ⟨rfl, hB5⟩
            have HB5 := hide (HBv.out.trans (hB5.mono HBv.out.size))
            clear hB5
            go_wp2_with fail
            go_ret
            exact ⟨rfl, HB5.out⟩
        · have hgi : ¬ (at_ : Int) + (z : Int) > (K : Int) := by omega
          have hTK : T ≤ K := by rw [HUP.out]; omega
          have hQe := HCW.out hTK
          have HA := hide (answers_whole f HOKf.out HSZf.out (((fieldsS l).take K).drop T) u0 B0 F g HT0.out (by rw [← hQe]; exact HR0.out) (by rw [← hQe]; exact HRX.out) (by rw [← hQe]; have := HLX.out; omega))
          unfold Fld.val at HA
          have hK5 := HLE.out hTK
          have HDL2 : Tuck (((((fieldsS l).take K).drop T).length : Int) = (K : Int) - ((at_ : Int) + (z : Int))) := tuck (by rw [HDL.out]; have := HUP.out; omega)
          clear hQe
          go_wp2_with fail
          refine HA.out.mono ?_
          rintro e v1 ⟨rfl, hK1, hN1⟩
          have HR1 := hide hN1
          have HB1 := hide (hK1.through HB0.out (fun k h => HFB.out k h) HB0.out.size)
          clear hK1 hN1 HA ya yb yc yd ye
          go_wp2_with fail
          refine (err_any v1 _ _ _ _ _ HR1.out).mono ?_
          rintro e v1 ⟨rfl, rfl⟩
          rw [show errOf false = 0 from rfl]
          go_wp2_with fail
          refine (left_any v1 _ _ _ _ _ HR1.out).mono ?_
          rintro e v1 ⟨rfl, rfl⟩
          rw [HDL2.out]
          go_wp2_with fail
          go_roundw
          case rel => exact ⟨k + 1, at_ + z, by omega, by go_num, by go_num, tuck (by rw [HT.out, HUP.out]), by omega, by rw [HT.out]; exact HR1, HB1⟩
          case measure => simp [intOf]; omega
      · obtain rfl : k = n := by omega
        have hup : upTo l k = N := by rw [HN.out, upTo, List.take_length, HNX.out]
        rw [hup] at hat HRr
        have hKN : K = N := by have := hat.out; omega
        have hnil : ((fieldsS l).take K).drop N = [] := List.drop_eq_nil_of_le (by have := HNX.out; simp; omega)
        rw [hnil] at HRr
        obtain rfl : at_ = N := hat.out
        clear hat hle hnil hup hKN
        go_wp2_with fail
        refine (endr_any wr _ _ _ _ _ HRr.out).mono ?_
        rintro e v1 ⟨rfl, hK1, hN⟩
        rw [show errOf (false || !([] : List Int).isEmpty) = 0 from rfl]
        have HBv := hide (hK1.through HBr.out (fun k h => HFB.out k h) HBr.out.size)
        have HAW := hide (awake_any v1 (ht.below HBv.out h2))
        clear hK1 hN
        go_wp2_with fail
        refine HAW.out.mono ?_
        rintro e v2 ⟨rfl, hB5⟩
        have HB5 := hide (HBv.out.trans (hB5.mono HBv.out.size))
        clear hB5
        go_wp2_with fail
        go_ret
        exact ⟨rfl, HB5.out⟩
end Go.Proofs.YtjcdmffjpkckoaaDoor
