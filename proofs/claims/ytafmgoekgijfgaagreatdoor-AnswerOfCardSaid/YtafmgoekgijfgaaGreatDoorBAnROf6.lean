/- The document's Of of answers: 6. -/
import Derived.Test.YtafmgoekgijfgaaGreatDoorBAnMB
namespace Go.Proofs.YtafmgoekgijfgaaGreatDoor
open Go.RowKit Go.Lib

set_option maxRecDepth 100000 in
set_option maxHeartbeats 4000000 in
theorem arof_6 (s : ByteArray) (ha : Option Addr) (hn hc : Nat) (ba : Option Addr) (bn bc : Nat) (x : Rw) (w0 : World) (hr : RawAt w0 ⟨s, ⟨ha, hn, hc⟩, ⟨ba, bn, bc⟩⟩ x) (hs0 : s.size ≤ 900000) (hf : Fits x.heads) (hl : x.heads.length ≤ 1000) (hbl : x.body.length ≤ 900000) (h13 : ¬ x.start.length < 13) (hv : x.start.take 9 = verL) (h12 : x.start[12]? = some 32) (hdg : ((x.start.drop 9).take 3).all digB = true) (hpp : (x.start.drop 13).all priB = true) :
    Calls Tryz.prog 34 #[.agg #[.string s, .slice ha hn hc, .slice ba bn bc]] w0 (AROfPost w0 x) := by
  obtain ⟨hst, gh, gb⟩ := hr
  simp only [Sl.v] at hst gh gb
  have HO := hideL (OfSA.first w0 s (.slice ha hn hc) (.slice ba bn bc))
  have hz := size_list s
  rw [hst] at hz
  have c0 := HO.out.raw.c0
  have i1 : ¬ (s.size : Int) < 13 := by omega
  have i1d : decide ((s.size : Int) < 13) = false := decide_eq_false i1
  have b1 : (9 : Int) ≤ (s.size : Int) := by omega
  have b2 : 9 ≤ s.size := by omega
  obtain ⟨T, hT⟩ : ∃ T, bo (x.start.take 9) = T := ⟨_, rfl⟩
  have e2 : s.extract 0 9 = T := by rw [bo_exA, hst, List.drop_zero, hT]
  have e8 : (T.toList == [72, 84, 84, 80, 47, 49, 46, 49, 32]) = true := by
    have := eqs_true (s := T) (t := ⟨#[72, 84, 84, 80, 47, 49, 46, 49, 32]⟩) (by rw [← hT, hv]; rfl)
    rwa [ByteArray.toList_eq ⟨#[72, 84, 84, 80, 47, 49, 46, 49, 32]⟩] at this
  have b3 : (12 : Int) < (s.size : Int) := by omega
  have b4 : 12 < s.size := by omega
  have hx12 : x.start[12]? = some s[12] := by
    rw [← hst, List.getElem?_eq_getElem (by rw [hst]; omega)]
    rfl
  have i32 : ((s[12].toNat : Int) == 32) = true := by
    have e : s[12] = 32 := Option.some.inj (hx12.symm.trans h12)
    rw [e]
    rfl
  have HS := hideL (show s.data.toList.length = s.size from size_list s)
  have HS13 := hideL (show 13 ≤ s.size by omega)
  have HDG := hideL hdg
  have HPP := hideL hpp
  have HALL := hideL (show x.start.take 9 = verL ∧ 13 ≤ x.start.length ∧ x.start[12]? = some 32 ∧ ((x.start.drop 9).take 3).all digB = true ∧ (x.start.drop 13).all priB = true from ⟨hv, by omega, h12, hdg, hpp⟩)
  have HFI := hideL hf
  have HHL := hideL hl
  have HBL := hideL hbl
  have HST := hideL hst
  have HSZ := hideL hs0
  have GH := hideL gh
  have GB := hideL gb
  clear hst gh gb hz hs0 h13 hT hv h12 hx12
  go_enter Tryz.func34, Tryz.ntmps34
  go_wp2_with fail
  generalize (w0.alloc (rawC s (.slice ha hn hc) (.slice ba bn bc))).alloc (anC 0 (.slice none 0 0) (.slice none 0 0)) = W0 at *
  clear i1d b1 b2 e2 e8 c0
  go_loopw [5, 6] (fun n i wr => ∃ (k N : Nat), n = .int .i64 N ∧ i = .int .i64 k ∧ 9 ≤ k ∧ k ≤ 12 ∧ HidL (far k N) ∧ HidL (numN 0 ((s.data.toList.drop 9).take (k - 9)) = N) ∧ HidL (((s.data.toList.drop 9).take (k - 9)).all digB = true) ∧ HidL (OfSA w0 s (.slice ha hn hc) (.slice ba bn bc) wr)) (fun _ i _ => 12 - (RowKit.intOf i).toNat)
  case atStart => exact ⟨9, 0, rfl, rfl, by omega, by omega, ⟨.inl ⟨rfl, by omega⟩⟩, ⟨rfl⟩, ⟨rfl⟩, HO⟩
  case round =>
    obtain ⟨k, N, rfl, rfl, hk9, hk12, HF, HN, HD, HO⟩ := hrel
    obtain ⟨W, rfl⟩ : ∃ W, W = wr := ⟨_, rfl⟩
    by_cases hk : k < 12
    · have h1 : (k : Int) < 12 := by omega
      have h2 : (k : Int) < (s.size : Int) := by have := HS13.out; omega
      have h2' : k < s.size := by omega
      have hkl : k < s.data.toList.length := by rw [HS.out]; exact h2'
      have hget : s.data.toList[k] = s[k] := rfl
      have h3 : s[k].toNat < 256 := s[k].toNat_lt
      by_cases h48 : s[k].toNat < 48
      · have i48 : (s[k].toNat : Int) < 48 := by omega
        have hbd := dig_not (.inl h48)
        rw [← hget] at hbd
        have HBD := hideL (all_bad (n := 3) hk9 (by omega) hkl hbd)
        clear h48 hget hbd HF HN HD
        have := HBD.out
        rw [HST.out, HDG.out] at this
        cases this
      have i48 : ¬ (s[k].toNat : Int) < 48 := by omega
      have i48d : decide ((s[k].toNat : Int) < 48) = false := decide_eq_false i48
      by_cases h57 : 57 < s[k].toNat
      · have i57 : (57 : Int) < (s[k].toNat : Int) := by omega
        have hbd := dig_not (.inr h57)
        rw [← hget] at hbd
        have HBD := hideL (all_bad (n := 3) hk9 (by omega) hkl hbd)
        clear h48 h57 hget hbd HF HN HD
        have := HBD.out
        rw [HST.out, HDG.out] at this
        cases this
      have i57 : ¬ (57 : Int) < (s[k].toNat : Int) := by omega
      have i57d : decide ((57 : Int) < (s[k].toNat : Int)) = false := decide_eq_false i57
      have hN : N < 1000 := by have := HF.out; unfold far at this; omega
      obtain ⟨N2, hN2⟩ : ∃ n, N * 10 + (s[k].toNat - 48) = n := ⟨_, rfl⟩
      have HF2 : HidL (far (k + 1) N2) := ⟨by have := HF.out; unfold far at this ⊢; omega⟩
      have hsn := drop_snoc hk9 hkl
      rw [hget] at hsn
      have HN2 : HidL (numN 0 ((s.data.toList.drop 9).take (k + 1 - 9)) = N2) := ⟨by rw [hsn, numN_snoc, HN.out]; exact hN2⟩
      have HD2 : HidL (((s.data.toList.drop 9).take (k + 1 - 9)).all digB = true) := ⟨by rw [hsn, List.all_append, HD.out, List.all_cons, dig_yes h48 h57]; rfl⟩
      have v1 : IntKind.i64.wrap ((N : Int) * 10) = (N : Int) * 10 := by rw [IntWalk.i64_in _ (by omega)]
      have v2 : IntKind.i64.wrap ((N : Int) * 10 + (s[k].toNat : Int)) = (N : Int) * 10 + (s[k].toNat : Int) := by rw [IntWalk.i64_in _ (by omega)]
      have v3 : IntKind.i64.wrap ((N : Int) * 10 + (s[k].toNat : Int) - 48) = (N2 : Int) := by rw [IntWalk.i64_in _ (by omega)]; omega
      have v4 : IntKind.i64.wrap ((k : Int) + 1) = (k : Int) + 1 := by rw [IntWalk.i64_in _ (by omega)]
      have v5 : IntKind.i64.wrap (s[k].toNat : Int) = (s[k].toNat : Int) := by rw [IntWalk.i64_in _ (by omega)]
      clear hsn hN2 hget h48 h57 HF HN HD
      go_wp2_with fail
      go_roundw
      case rel => exact ⟨k + 1, N2, rfl, by go_num, by omega, by omega, HF2, HN2, HD2, HO⟩
      case measure => simp [RowKit.intOf]; omega
    · obtain rfl : k = 12 := by omega
      have h1 : ¬ ((12 : Nat) : Int) < 12 := by omega
      have h1' : ¬ (12 : Int) < 12 := by omega
      have hN : N < 1000 := by have := HF.out; unfold far at this; omega
      have HNN := HN
      clear HF HN HD
      go_wp2_with fail
      go_loopw [7] (fun i wr => ∃ k : Nat, i = .int .i64 k ∧ 13 ≤ k ∧ k ≤ s.size ∧ HidL (((s.data.toList.drop 13).take (k - 13)).all priB = true) ∧ HidL (OfSA w0 s (.slice ha hn hc) (.slice ba bn bc) wr)) (fun i _ => s.size - (RowKit.intOf i).toNat)
      case atStart => exact ⟨13, rfl, by omega, HS13.out, ⟨rfl⟩, HO⟩
      case round =>
        obtain ⟨k, rfl, hk13, hks, HP, HO⟩ := hrel
        obtain ⟨W2, rfl⟩ : ∃ W, W = wr := ⟨_, rfl⟩
        by_cases hk : k < s.size
        · have h2 : (k : Int) < (s.size : Int) := by omega
          have hkl : k < s.data.toList.length := by rw [HS.out]; exact hk
          have hget : s.data.toList[k] = s[k] := rfl
          have h3 : s[k].toNat < 256 := s[k].toNat_lt
          have HZ := hideL (show s.size ≤ 900000 from HSZ.out)
          by_cases h32 : s[k].toNat < 32
          · have i32 : (s[k].toNat : Int) < 32 := by omega
            have hbd := pri_not (.inl h32)
            rw [← hget] at hbd
            have HBD := hideL (all_bad (n := s.size - 13) hk13 (by omega) hkl hbd)
            clear h32 hget hbd HP
            have := HBD.out
            rw [List.take_of_length_le (by rw [List.length_drop, HS.out]; exact Nat.le_refl _), HST.out, HPP.out] at this
            cases this
          have i32 : ¬ (s[k].toNat : Int) < 32 := by omega
          have i32d : decide ((s[k].toNat : Int) < 32) = false := decide_eq_false i32
          by_cases h126 : 126 < s[k].toNat
          · have i126 : (126 : Int) < (s[k].toNat : Int) := by omega
            have hbd := pri_not (.inr h126)
            rw [← hget] at hbd
            have HBD := hideL (all_bad (n := s.size - 13) hk13 (by omega) hkl hbd)
            clear h32 h126 hget hbd HP
            have := HBD.out
            rw [List.take_of_length_le (by rw [List.length_drop, HS.out]; exact Nat.le_refl _), HST.out, HPP.out] at this
            cases this
          have i126 : ¬ (126 : Int) < (s[k].toNat : Int) := by omega
          have i126d : decide ((126 : Int) < (s[k].toNat : Int)) = false := decide_eq_false i126
          have hsn := drop_snoc hk13 hkl
          rw [hget] at hsn
          have HP2 : HidL (((s.data.toList.drop 13).take (k + 1 - 13)).all priB = true) := ⟨by rw [hsn, List.all_append, HP.out, List.all_cons, pri_yes h32 h126]; rfl⟩
          have v4 : IntKind.i64.wrap ((k : Int) + 1) = (k : Int) + 1 := by rw [IntWalk.i64_in _ (by have := HZ.out; omega)]
          clear hsn hget h32 h126 HP
          go_wp2_with fail
          go_roundw
          case rel => exact ⟨k + 1, by go_num, by omega, by omega, HP2, HO⟩
          case measure => simp [RowKit.intOf]; omega
        · obtain rfl : k = s.size := by omega
          have h2 : ¬ (s.size : Int) < (s.size : Int) := by omega
          have hpr : (s.data.toList.drop 13).all priB = true := by
            have := HP.out
            rwa [List.take_of_length_le (by rw [List.length_drop, HS.out]; exact Nat.le_refl _)] at this
          have HPR := hideL hpr
          clear hpr HP hk
          have hnn := HNN.out
          rw [HST.out] at hnn
          have HOF := hideL (ofA_yes (x := x) HALL.out hnn)
          clear hnn HNN
          have HLT := hideL HO.out.raw.lt
          have C1 := hideL HO.out.raw.c1
          have C2 := hideL HO.out.raw.c2
          have HRM := hideL HO.out.room
          have HB0 := hideL ((Below.refl W2.heap.size W2).drew)
          go_wp2_with fail
          go_cut [8] (fun s8 W' => ∃ (gk : Nat) (ka : Option Addr) (kn kc : Nat) (ja : Option Addr) (jn jc : Nat), s8 = .pointer (some ⟨gk, 0, none⟩) ∧ W2.heap.size ≤ gk ∧ ABox W' gk N (.slice ka kn kc) (.slice ja jn jc) ∧ GRow KH W' W2.heap.size (.slice ka kn kc) x.heads ∧ GRow KB W' W2.heap.size (.slice ja jn jc) x.body ∧ Below W2.heap.size W2 W')
          case first =>
            refine wp_region_held_drew (S := fun w' => Below W2.heap.size W2 w') (by kernel_rfl) ((Below.refl _ _).drew) (fun hHeld => ?_)
            generalize W2.drew = V0 at hHeld HB0 ⊢
            refine tl 0 rfl hHeld ?_
            try simp only [pA, pB, pC, pD]
            refine tl 2 rfl hHeld ?_
            try simp only [pA, pB, pC, pD]
            refine tl 6 rfl hHeld ?_
            try simp only [pA, pB, pC, pD]
            refine tm 3 (v := ?_) rfl hHeld ?_ ?_
            rotate_left
            · intro w hSw; (try dsimp only at hSw); have e1 := (hSw.cell (p := ⟨w0.heap.size, 1, none⟩) HLT.out).trans C1.out; go_simp; first | done | with_reducible rfl
            try simp only [pA, pB, pC, pD]
            refine tm 7 (v := ?_) rfl hHeld ?_ ?_
            rotate_left
            · intro w hSw; (try dsimp only at hSw); have e1 := (hSw.cell (p := ⟨w0.heap.size, 2, none⟩) HLT.out).trans C2.out; go_simp; first | done | with_reducible rfl
            try simp only [pA, pB, pC, pD]
            refine wpAnyH_ready (rs := [1, 5, 10]) (by kernel_rfl) (by simp) ?_
            refine AllReadyH.cons (o := ⟨_, _, _, _, _, _⟩) rfl (fun K hK => ?_) (AllReadyH.cons (o := ⟨_, _, _, _, _, _⟩) rfl (fun K hK => ?_) (AllReadyH.cons (o := ⟨_, _, _, _, _, _⟩) rfl (fun K hK => ?_) AllReadyH.nil))
            · clear hHeld
              go_simp
              have hz := (Below.refl V0.heap.size V0).alloc (Nat.le_refl _) (.cells #[] 83)
              have HA0 : HidL (GRow KH (V0.alloc (.cells #[] 83)) W2.heap.size (.slice (some ⟨V0.heap.size, 0, none⟩) 0 0) []) := ⟨GRow.lit (K := KH) V0 W2.heap.size [] HB0.out.size (by decide)⟩
              have HB1 := hideL (HB0.out.trans (hz.mono HB0.out.size))
              clear hz
              obtain ⟨gA, hg⟩ : ∃ g, g = V0.heap.size := ⟨_, rfl⟩
              rw [← hg] at HA0 ⊢
              clear hg
              obtain ⟨V1, hV⟩ : ∃ x, x = V0.alloc (.cells #[] 83) := ⟨_, rfl⟩
              rw [← hV] at HA0 HB1 ⊢
              clear hV
              have HA := HA0
              clear HA0
              refine hK.out _ _ (HB1.out) (fun hHeld => ?_)
              clear hK K
              try simp only [pA, pB, pC, pD]
              refine wpAnyH_ready (rs := [4, 5, 10]) (by kernel_rfl) (by simp) ?_
              refine AllReadyH.cons (o := ⟨_, _, _, _, _, _⟩) rfl (fun K hK => ?_) (AllReadyH.cons (o := ⟨_, _, _, _, _, _⟩) rfl (fun K hK => ?_) (AllReadyH.cons (o := ⟨_, _, _, _, _, _⟩) rfl (fun K hK => ?_) AllReadyH.nil))
              · clear hHeld
                rw [if_pos (by rfl)]
                obtain ⟨ka, kn, kc, V2, hrun, hr, hk, ho⟩ := head_keep V1 W2.heap.size _ [] HA.out (.slice ha hn hc) x.heads ((GH.out.below HO.out.be).below HB1.out) (by have := HHL.out; simp; omega) HB1.out.size
                rw [List.nil_append] at hr
                refine wp_append_runR _ _ _ _ _ rfl rfl _ _ (.slice ka kn kc) V2 rfl rfl hrun ?_
                have HR := hideL hr
                have HB2 := hideL (HB1.out.trans (hk.below (fun q hq => HA.out.ge hq) HB1.out.size))
                clear hrun hr hk ho HA
                refine hK.out _ _ (HB2.out) (fun hHeld => ?_)
                clear hK K
                try simp only [pA, pB, pC, pD]
                refine wpAnyH_ready (rs := [5, 10]) (by kernel_rfl) (by simp) ?_
                refine AllReadyH.cons (o := ⟨_, _, _, _, _, _⟩) rfl (fun K hK => ?_) (AllReadyH.cons (o := ⟨_, _, _, _, _, _⟩) rfl (fun K hK => ?_) AllReadyH.nil)
                · clear hHeld
                  go_simp
                  have hz := (Below.refl V2.heap.size V2).alloc (Nat.le_refl _) (.cells #[] 5)
                  have HT0 : HidL (GRow KB (V2.alloc (.cells #[] 5)) W2.heap.size (.slice (some ⟨V2.heap.size, 0, none⟩) 0 0) []) := ⟨GRow.lit (K := KB) V2 W2.heap.size [] HB2.out.size (by decide)⟩
                  have ORT := hideL (show ∀ q, (Value.slice ka kn kc).ownBlock = some q → q ≠ V2.heap.size from fun q hq => Nat.ne_of_lt (HR.out.lt hq))
                  have HR := hideL (HR.out.below hz)
                  have HB3 := hideL (HB2.out.trans (hz.mono HB2.out.size))
                  clear hz
                  obtain ⟨gT, hg⟩ : ∃ g, g = V2.heap.size := ⟨_, rfl⟩
                  rw [← hg] at HT0 ORT ⊢
                  clear hg
                  obtain ⟨V3, hV⟩ : ∃ x, x = V2.alloc (.cells #[] 5) := ⟨_, rfl⟩
                  rw [← hV] at HT0 HB3 HR ⊢
                  clear hV
                  have HT := HT0
                  clear HT0
                  refine hK.out _ _ (HB3.out) (fun hHeld => ?_)
                  clear hK K
                  try simp only [pA, pB, pC, pD]
                  refine wpAnyH_ready (rs := [8, 10]) (by kernel_rfl) (by simp) ?_
                  refine AllReadyH.cons (o := ⟨_, _, _, _, _, _⟩) rfl (fun K hK => ?_) (AllReadyH.cons (o := ⟨_, _, _, _, _, _⟩) rfl (fun K hK => ?_) AllReadyH.nil)
                  · clear hHeld
                    rw [if_pos (by rfl)]
                    obtain ⟨ja, jn, jc, V4, hrun, hr, hk, ho⟩ := byte_keep V3 W2.heap.size _ [] HT.out (.slice ba bn bc) x.body ((GB.out.below HO.out.be).below HB3.out) (by have := HBL.out; simp; omega) HB3.out.size
                    rw [List.nil_append] at hr
                    refine wp_append_runR _ _ _ _ _ rfl rfl _ _ (.slice ja jn jc) V4 rfl rfl hrun ?_
                    have HF := hideL hr
                    have HR := hideL (HR.out.keep hk (fun q hq he => ORT.out q hq (by injection he with he; exact he.symm)))
                    have HB4 := hideL (HB3.out.trans (hk.below (fun q hq => HT.out.ge hq) HB3.out.size))
                    clear hrun hr hk ho HT
                    refine hK.out _ _ (HB4.out) (fun hHeld => ?_)
                    clear hK K
                    try simp only [pA, pB, pC, pD]
                    refine tl 9 rfl hHeld ?_
                    try simp only [pA, pB, pC, pD]
                    refine wpAnyH_ready (rs := [10]) (by kernel_rfl) (by simp) ?_
                    refine AllReadyH.cons (o := ⟨_, _, _, _, _, _⟩) rfl (fun K hK => ?_) AllReadyH.nil
                    clear hHeld
                    rw [if_pos (by rfl)]
                    refine wp_alloc_a rfl ?_
                    have hz := (Below.refl V4.heap.size V4).alloc (Nat.le_refl _) (anC 0 (.slice none 0 0) (.slice none 0 0))
                    have HK0 := hideL (ABox.new V4 0 (.slice none 0 0) (.slice none 0 0))
                    have HGE := hideL (show W2.heap.size ≤ V4.heap.size from HB4.out.size)
                    have ORK := hideL (show ∀ q, (Value.slice ka kn kc).ownBlock = some q → q ≠ V4.heap.size from fun q hq => Nat.ne_of_lt (HR.out.lt hq))
                    have OFK := hideL (show ∀ q, (Value.slice ja jn jc).ownBlock = some q → q ≠ V4.heap.size from fun q hq => Nat.ne_of_lt (HF.out.lt hq))
                    have HR := hideL (HR.out.below hz)
                    have HF := hideL (HF.out.below hz)
                    have HB5 := hideL (HB4.out.trans (hz.mono HB4.out.size))
                    clear hz
                    obtain ⟨gk, hg⟩ : ∃ g, g = V4.heap.size := ⟨_, rfl⟩
                    rw [← hg] at HK0 ORK OFK HGE ⊢
                    clear hg
                    obtain ⟨V5, hV⟩ : ∃ x, x = V4.alloc (anC 0 (.slice none 0 0) (.slice none 0 0)) := ⟨_, rfl⟩
                    rw [← hV] at HK0 HB5 HR HF ⊢
                    clear hV
                    have HK := HK0
                    clear HK0
                    refine hK.out _ _ (HB5.out) (fun hHeld => ?_)
                    clear hK K
                    try simp only [pA, pB, pC, pD]
                    refine wpAnyH_ready (rs := [11]) (by kernel_rfl) (by simp) ?_
                    refine AllReadyH.cons (o := ⟨_, _, _, _, _, _⟩) rfl (fun K hK => ?_) AllReadyH.nil
                    clear hHeld
                    rw [if_pos (by rfl)]
                    refine wp_store_row _ _ _ rfl gk #[.int .i64 N, .slice ka kn kc, .slice ja jn jc] rfl rfl _ _ HK.out sizeAn rfl (oneAn _ _ _ _ _ _ _) ?_
                    have hks := keep_setRow V5 gk #[.int .i64 N, .slice ka kn kc, .slice ja jn jc]
                    have HK := hideL (HK.out.put N (.slice ka kn kc) (.slice ja jn jc))
                    have HR := hideL (HR.out.keep hks (fun q hq he => ORK.out q hq he))
                    have HF := hideL (HF.out.keep hks (fun q hq he => OFK.out q hq he))
                    have HB6 := hideL (HB5.out.trans (hks.below (fun q hq => by have := HGE.out; omega) HB5.out.size))
                    clear hks
                    refine hK.out _ _ (HB6.out) (fun hHeld => ?_)
                    clear hK K
                    try simp only [Act.put]
                    refine wpAnyH_done (by kernel_rfl) ?_ _
                    clear hHeld
                    go_wp2_with fail
                    go_meet
                    case rel => exact ⟨gk, ka, kn, kc, ja, jn, jc, rfl, HGE.out, HK.out, HR.out, HF.out, HB6.out⟩
                  · clear hHeld
                    rw [if_pos (by rfl)]
                    refine wp_alloc_a rfl ?_
                    have hz := (Below.refl V3.heap.size V3).alloc (Nat.le_refl _) (anC 0 (.slice none 0 0) (.slice none 0 0))
                    have HK0 := hideL (ABox.new V3 0 (.slice none 0 0) (.slice none 0 0))
                    have HGE := hideL (show W2.heap.size ≤ V3.heap.size from HB3.out.size)
                    have ORK := hideL (show ∀ q, (Value.slice ka kn kc).ownBlock = some q → q ≠ V3.heap.size from fun q hq => Nat.ne_of_lt (HR.out.lt hq))
                    have NTK := hideL (show gT ≠ V3.heap.size from Nat.ne_of_lt (HT.out.lt rfl))
                    have HR := hideL (HR.out.below hz)
                    have HT := hideL (HT.out.below hz)
                    have HB4 := hideL (HB3.out.trans (hz.mono HB3.out.size))
                    clear hz
                    obtain ⟨gk, hg⟩ : ∃ g, g = V3.heap.size := ⟨_, rfl⟩
                    rw [← hg] at HK0 ORK NTK HGE ⊢
                    clear hg
                    obtain ⟨V4, hV⟩ : ∃ x, x = V3.alloc (anC 0 (.slice none 0 0) (.slice none 0 0)) := ⟨_, rfl⟩
                    rw [← hV] at HK0 HB4 HR HT ⊢
                    clear hV
                    have HK := HK0
                    clear HK0
                    refine hK.out _ _ (HB4.out) (fun hHeld => ?_)
                    clear hK K
                    try simp only [pA, pB, pC, pD]
                    refine wpAnyH_ready (rs := [8]) (by kernel_rfl) (by simp) ?_
                    refine AllReadyH.cons (o := ⟨_, _, _, _, _, _⟩) rfl (fun K hK => ?_) AllReadyH.nil
                    clear hHeld
                    rw [if_pos (by rfl)]
                    obtain ⟨ja, jn, jc, V5, hrun, hr, hk, ho⟩ := byte_keep V4 W2.heap.size _ [] HT.out (.slice ba bn bc) x.body ((GB.out.below HO.out.be).below HB4.out) (by have := HBL.out; simp; omega) HB4.out.size
                    rw [List.nil_append] at hr
                    refine wp_append_runR _ _ _ _ _ rfl rfl _ _ (.slice ja jn jc) V5 rfl rfl hrun ?_
                    have HF := hideL hr
                    have HR := hideL (HR.out.keep hk (fun q hq he => ORT.out q hq (by injection he with he; exact he.symm)))
                    have OFK := hideL (own_off ho rfl NTK.out HK.out.lt)
                    have HK : HidL (ABox V5 gk 0 (.slice none 0 0) (.slice none 0 0)) := ⟨(hk.block gk HK.out.lt (fun e => NTK.out (by injection e))).trans HK.out⟩
                    have HB5 := hideL (HB4.out.trans (hk.below (fun q hq => HT.out.ge hq) HB4.out.size))
                    clear hrun hr hk ho HT
                    refine hK.out _ _ (HB5.out) (fun hHeld => ?_)
                    clear hK K
                    try simp only [pA, pB, pC, pD]
                    refine tl 9 rfl hHeld ?_
                    try simp only [pA, pB, pC, pD]
                    refine wpAnyH_ready (rs := [11]) (by kernel_rfl) (by simp) ?_
                    refine AllReadyH.cons (o := ⟨_, _, _, _, _, _⟩) rfl (fun K hK => ?_) AllReadyH.nil
                    clear hHeld
                    rw [if_pos (by rfl)]
                    refine wp_store_row _ _ _ rfl gk #[.int .i64 N, .slice ka kn kc, .slice ja jn jc] rfl rfl _ _ HK.out sizeAn rfl (oneAn _ _ _ _ _ _ _) ?_
                    have hks := keep_setRow V5 gk #[.int .i64 N, .slice ka kn kc, .slice ja jn jc]
                    have HK := hideL (HK.out.put N (.slice ka kn kc) (.slice ja jn jc))
                    have HR := hideL (HR.out.keep hks (fun q hq he => ORK.out q hq he))
                    have HF := hideL (HF.out.keep hks (fun q hq he => OFK.out q hq he))
                    have HB6 := hideL (HB5.out.trans (hks.below (fun q hq => by have := HGE.out; omega) HB5.out.size))
                    clear hks
                    refine hK.out _ _ (HB6.out) (fun hHeld => ?_)
                    clear hK K
                    try simp only [Act.put]
                    refine wpAnyH_done (by kernel_rfl) ?_ _
                    clear hHeld
                    go_wp2_with fail
                    go_meet
                    case rel => exact ⟨gk, ka, kn, kc, ja, jn, jc, rfl, HGE.out, HK.out, HR.out, HF.out, HB6.out⟩
                · clear hHeld
                  rw [if_pos (by rfl)]
                  refine wp_alloc_a rfl ?_
                  have hz := (Below.refl V2.heap.size V2).alloc (Nat.le_refl _) (anC 0 (.slice none 0 0) (.slice none 0 0))
                  have HK0 := hideL (ABox.new V2 0 (.slice none 0 0) (.slice none 0 0))
                  have HGE := hideL (show W2.heap.size ≤ V2.heap.size from HB2.out.size)
                  have ORK := hideL (show ∀ q, (Value.slice ka kn kc).ownBlock = some q → q ≠ V2.heap.size from fun q hq => Nat.ne_of_lt (HR.out.lt hq))
                  have HR := hideL (HR.out.below hz)
                  have HB3 := hideL (HB2.out.trans (hz.mono HB2.out.size))
                  clear hz
                  obtain ⟨gk, hg⟩ : ∃ g, g = V2.heap.size := ⟨_, rfl⟩
                  rw [← hg] at HK0 ORK HGE ⊢
                  clear hg
                  obtain ⟨V3, hV⟩ : ∃ x, x = V2.alloc (anC 0 (.slice none 0 0) (.slice none 0 0)) := ⟨_, rfl⟩
                  rw [← hV] at HK0 HB3 HR ⊢
                  clear hV
                  have HK := HK0
                  clear HK0
                  refine hK.out _ _ (HB3.out) (fun hHeld => ?_)
                  clear hK K
                  try simp only [pA, pB, pC, pD]
                  refine wpAnyH_ready (rs := [5]) (by kernel_rfl) (by simp) ?_
                  refine AllReadyH.cons (o := ⟨_, _, _, _, _, _⟩) rfl (fun K hK => ?_) AllReadyH.nil
                  clear hHeld
                  go_simp
                  have hz := (Below.refl V3.heap.size V3).alloc (Nat.le_refl _) (.cells #[] 5)
                  have HT0 : HidL (GRow KB (V3.alloc (.cells #[] 5)) W2.heap.size (.slice (some ⟨V3.heap.size, 0, none⟩) 0 0) []) := ⟨GRow.lit (K := KB) V3 W2.heap.size [] HB3.out.size (by decide)⟩
                  have ORT := hideL (show ∀ q, (Value.slice ka kn kc).ownBlock = some q → q ≠ V3.heap.size from fun q hq => Nat.ne_of_lt (HR.out.lt hq))
                  have NTK := hideL (show V3.heap.size ≠ gk from (Nat.ne_of_lt HK.out.lt).symm)
                  have HR := hideL (HR.out.below hz)
                  have HK := hideL (HK.out.next hz)
                  have HB4 := hideL (HB3.out.trans (hz.mono HB3.out.size))
                  clear hz
                  obtain ⟨gT, hg⟩ : ∃ g, g = V3.heap.size := ⟨_, rfl⟩
                  rw [← hg] at HT0 ORT NTK ⊢
                  clear hg
                  obtain ⟨V4, hV⟩ : ∃ x, x = V3.alloc (.cells #[] 5) := ⟨_, rfl⟩
                  rw [← hV] at HT0 HB4 HR HK ⊢
                  clear hV
                  have HT := HT0
                  clear HT0
                  refine hK.out _ _ (HB4.out) (fun hHeld => ?_)
                  clear hK K
                  try simp only [pA, pB, pC, pD]
                  refine wpAnyH_ready (rs := [8]) (by kernel_rfl) (by simp) ?_
                  refine AllReadyH.cons (o := ⟨_, _, _, _, _, _⟩) rfl (fun K hK => ?_) AllReadyH.nil
                  clear hHeld
                  rw [if_pos (by rfl)]
                  obtain ⟨ja, jn, jc, V5, hrun, hr, hk, ho⟩ := byte_keep V4 W2.heap.size _ [] HT.out (.slice ba bn bc) x.body ((GB.out.below HO.out.be).below HB4.out) (by have := HBL.out; simp; omega) HB4.out.size
                  rw [List.nil_append] at hr
                  refine wp_append_runR _ _ _ _ _ rfl rfl _ _ (.slice ja jn jc) V5 rfl rfl hrun ?_
                  have HF := hideL hr
                  have HR := hideL (HR.out.keep hk (fun q hq he => ORT.out q hq (by injection he with he; exact he.symm)))
                  have OFK := hideL (own_off ho rfl NTK.out HK.out.lt)
                  have HK : HidL (ABox V5 gk 0 (.slice none 0 0) (.slice none 0 0)) := ⟨(hk.block gk HK.out.lt (fun e => NTK.out (by injection e))).trans HK.out⟩
                  have HB5 := hideL (HB4.out.trans (hk.below (fun q hq => HT.out.ge hq) HB4.out.size))
                  clear hrun hr hk ho HT
                  refine hK.out _ _ (HB5.out) (fun hHeld => ?_)
                  clear hK K
                  try simp only [pA, pB, pC, pD]
                  refine tl 9 rfl hHeld ?_
                  try simp only [pA, pB, pC, pD]
                  refine wpAnyH_ready (rs := [11]) (by kernel_rfl) (by simp) ?_
                  refine AllReadyH.cons (o := ⟨_, _, _, _, _, _⟩) rfl (fun K hK => ?_) AllReadyH.nil
                  clear hHeld
                  rw [if_pos (by rfl)]
                  refine wp_store_row _ _ _ rfl gk #[.int .i64 N, .slice ka kn kc, .slice ja jn jc] rfl rfl _ _ HK.out sizeAn rfl (oneAn _ _ _ _ _ _ _) ?_
                  have hks := keep_setRow V5 gk #[.int .i64 N, .slice ka kn kc, .slice ja jn jc]
                  have HK := hideL (HK.out.put N (.slice ka kn kc) (.slice ja jn jc))
                  have HR := hideL (HR.out.keep hks (fun q hq he => ORK.out q hq he))
                  have HF := hideL (HF.out.keep hks (fun q hq he => OFK.out q hq he))
                  have HB6 := hideL (HB5.out.trans (hks.below (fun q hq => by have := HGE.out; omega) HB5.out.size))
                  clear hks
                  refine hK.out _ _ (HB6.out) (fun hHeld => ?_)
                  clear hK K
                  try simp only [Act.put]
                  refine wpAnyH_done (by kernel_rfl) ?_ _
                  clear hHeld
                  go_wp2_with fail
                  go_meet
                  case rel => exact ⟨gk, ka, kn, kc, ja, jn, jc, rfl, HGE.out, HK.out, HR.out, HF.out, HB6.out⟩
              · clear hHeld
                go_simp
                have hz := (Below.refl V1.heap.size V1).alloc (Nat.le_refl _) (.cells #[] 5)
                have HT0 : HidL (GRow KB (V1.alloc (.cells #[] 5)) W2.heap.size (.slice (some ⟨V1.heap.size, 0, none⟩) 0 0) []) := ⟨GRow.lit (K := KB) V1 W2.heap.size [] HB1.out.size (by decide)⟩
                have NAT := hideL (show gA ≠ V1.heap.size from Nat.ne_of_lt (HA.out.lt rfl))
                have HA := hideL (HA.out.below hz)
                have HB2 := hideL (HB1.out.trans (hz.mono HB1.out.size))
                clear hz
                obtain ⟨gT, hg⟩ : ∃ g, g = V1.heap.size := ⟨_, rfl⟩
                rw [← hg] at HT0 NAT ⊢
                clear hg
                obtain ⟨V2, hV⟩ : ∃ x, x = V1.alloc (.cells #[] 5) := ⟨_, rfl⟩
                rw [← hV] at HT0 HB2 HA ⊢
                clear hV
                have HT := HT0
                clear HT0
                refine hK.out _ _ (HB2.out) (fun hHeld => ?_)
                clear hK K
                try simp only [pA, pB, pC, pD]
                refine wpAnyH_ready (rs := [4, 10]) (by kernel_rfl) (by simp) ?_
                refine AllReadyH.cons (o := ⟨_, _, _, _, _, _⟩) rfl (fun K hK => ?_) (AllReadyH.cons (o := ⟨_, _, _, _, _, _⟩) rfl (fun K hK => ?_) AllReadyH.nil)
                · clear hHeld
                  rw [if_pos (by rfl)]
                  obtain ⟨ka, kn, kc, V3, hrun, hr, hk, ho⟩ := head_keep V2 W2.heap.size _ [] HA.out (.slice ha hn hc) x.heads ((GH.out.below HO.out.be).below HB2.out) (by have := HHL.out; simp; omega) HB2.out.size
                  rw [List.nil_append] at hr
                  refine wp_append_runR _ _ _ _ _ rfl rfl _ _ (.slice ka kn kc) V3 rfl rfl hrun ?_
                  have HR := hideL hr
                  have ORT := hideL (own_off ho rfl NAT.out (HT.out.lt rfl))
                  have HT := hideL (HT.out.keep hk (fun q hq he => NAT.out (by injection hq with hq; injection he with he; exact he.trans hq.symm)))
                  have HB3 := hideL (HB2.out.trans (hk.below (fun q hq => HA.out.ge hq) HB2.out.size))
                  clear hrun hr hk ho HA
                  refine hK.out _ _ (HB3.out) (fun hHeld => ?_)
                  clear hK K
                  try simp only [pA, pB, pC, pD]
                  refine wpAnyH_ready (rs := [8, 10]) (by kernel_rfl) (by simp) ?_
                  refine AllReadyH.cons (o := ⟨_, _, _, _, _, _⟩) rfl (fun K hK => ?_) (AllReadyH.cons (o := ⟨_, _, _, _, _, _⟩) rfl (fun K hK => ?_) AllReadyH.nil)
                  · clear hHeld
                    rw [if_pos (by rfl)]
                    obtain ⟨ja, jn, jc, V4, hrun, hr, hk, ho⟩ := byte_keep V3 W2.heap.size _ [] HT.out (.slice ba bn bc) x.body ((GB.out.below HO.out.be).below HB3.out) (by have := HBL.out; simp; omega) HB3.out.size
                    rw [List.nil_append] at hr
                    refine wp_append_runR _ _ _ _ _ rfl rfl _ _ (.slice ja jn jc) V4 rfl rfl hrun ?_
                    have HF := hideL hr
                    have HR := hideL (HR.out.keep hk (fun q hq he => ORT.out q hq (by injection he with he; exact he.symm)))
                    have HB4 := hideL (HB3.out.trans (hk.below (fun q hq => HT.out.ge hq) HB3.out.size))
                    clear hrun hr hk ho HT
                    refine hK.out _ _ (HB4.out) (fun hHeld => ?_)
                    clear hK K
                    try simp only [pA, pB, pC, pD]
                    refine tl 9 rfl hHeld ?_
                    try simp only [pA, pB, pC, pD]
                    refine wpAnyH_ready (rs := [10]) (by kernel_rfl) (by simp) ?_
                    refine AllReadyH.cons (o := ⟨_, _, _, _, _, _⟩) rfl (fun K hK => ?_) AllReadyH.nil
                    clear hHeld
                    rw [if_pos (by rfl)]
                    refine wp_alloc_a rfl ?_
                    have hz := (Below.refl V4.heap.size V4).alloc (Nat.le_refl _) (anC 0 (.slice none 0 0) (.slice none 0 0))
                    have HK0 := hideL (ABox.new V4 0 (.slice none 0 0) (.slice none 0 0))
                    have HGE := hideL (show W2.heap.size ≤ V4.heap.size from HB4.out.size)
                    have ORK := hideL (show ∀ q, (Value.slice ka kn kc).ownBlock = some q → q ≠ V4.heap.size from fun q hq => Nat.ne_of_lt (HR.out.lt hq))
                    have OFK := hideL (show ∀ q, (Value.slice ja jn jc).ownBlock = some q → q ≠ V4.heap.size from fun q hq => Nat.ne_of_lt (HF.out.lt hq))
                    have HR := hideL (HR.out.below hz)
                    have HF := hideL (HF.out.below hz)
                    have HB5 := hideL (HB4.out.trans (hz.mono HB4.out.size))
                    clear hz
                    obtain ⟨gk, hg⟩ : ∃ g, g = V4.heap.size := ⟨_, rfl⟩
                    rw [← hg] at HK0 ORK OFK HGE ⊢
                    clear hg
                    obtain ⟨V5, hV⟩ : ∃ x, x = V4.alloc (anC 0 (.slice none 0 0) (.slice none 0 0)) := ⟨_, rfl⟩
                    rw [← hV] at HK0 HB5 HR HF ⊢
                    clear hV
                    have HK := HK0
                    clear HK0
                    refine hK.out _ _ (HB5.out) (fun hHeld => ?_)
                    clear hK K
                    try simp only [pA, pB, pC, pD]
                    refine wpAnyH_ready (rs := [11]) (by kernel_rfl) (by simp) ?_
                    refine AllReadyH.cons (o := ⟨_, _, _, _, _, _⟩) rfl (fun K hK => ?_) AllReadyH.nil
                    clear hHeld
                    rw [if_pos (by rfl)]
                    refine wp_store_row _ _ _ rfl gk #[.int .i64 N, .slice ka kn kc, .slice ja jn jc] rfl rfl _ _ HK.out sizeAn rfl (oneAn _ _ _ _ _ _ _) ?_
                    have hks := keep_setRow V5 gk #[.int .i64 N, .slice ka kn kc, .slice ja jn jc]
                    have HK := hideL (HK.out.put N (.slice ka kn kc) (.slice ja jn jc))
                    have HR := hideL (HR.out.keep hks (fun q hq he => ORK.out q hq he))
                    have HF := hideL (HF.out.keep hks (fun q hq he => OFK.out q hq he))
                    have HB6 := hideL (HB5.out.trans (hks.below (fun q hq => by have := HGE.out; omega) HB5.out.size))
                    clear hks
                    refine hK.out _ _ (HB6.out) (fun hHeld => ?_)
                    clear hK K
                    try simp only [Act.put]
                    refine wpAnyH_done (by kernel_rfl) ?_ _
                    clear hHeld
                    go_wp2_with fail
                    go_meet
                    case rel => exact ⟨gk, ka, kn, kc, ja, jn, jc, rfl, HGE.out, HK.out, HR.out, HF.out, HB6.out⟩
                  · clear hHeld
                    rw [if_pos (by rfl)]
                    refine wp_alloc_a rfl ?_
                    have hz := (Below.refl V3.heap.size V3).alloc (Nat.le_refl _) (anC 0 (.slice none 0 0) (.slice none 0 0))
                    have HK0 := hideL (ABox.new V3 0 (.slice none 0 0) (.slice none 0 0))
                    have HGE := hideL (show W2.heap.size ≤ V3.heap.size from HB3.out.size)
                    have ORK := hideL (show ∀ q, (Value.slice ka kn kc).ownBlock = some q → q ≠ V3.heap.size from fun q hq => Nat.ne_of_lt (HR.out.lt hq))
                    have NTK := hideL (show gT ≠ V3.heap.size from Nat.ne_of_lt (HT.out.lt rfl))
                    have HR := hideL (HR.out.below hz)
                    have HT := hideL (HT.out.below hz)
                    have HB4 := hideL (HB3.out.trans (hz.mono HB3.out.size))
                    clear hz
                    obtain ⟨gk, hg⟩ : ∃ g, g = V3.heap.size := ⟨_, rfl⟩
                    rw [← hg] at HK0 ORK NTK HGE ⊢
                    clear hg
                    obtain ⟨V4, hV⟩ : ∃ x, x = V3.alloc (anC 0 (.slice none 0 0) (.slice none 0 0)) := ⟨_, rfl⟩
                    rw [← hV] at HK0 HB4 HR HT ⊢
                    clear hV
                    have HK := HK0
                    clear HK0
                    refine hK.out _ _ (HB4.out) (fun hHeld => ?_)
                    clear hK K
                    try simp only [pA, pB, pC, pD]
                    refine wpAnyH_ready (rs := [8]) (by kernel_rfl) (by simp) ?_
                    refine AllReadyH.cons (o := ⟨_, _, _, _, _, _⟩) rfl (fun K hK => ?_) AllReadyH.nil
                    clear hHeld
                    rw [if_pos (by rfl)]
                    obtain ⟨ja, jn, jc, V5, hrun, hr, hk, ho⟩ := byte_keep V4 W2.heap.size _ [] HT.out (.slice ba bn bc) x.body ((GB.out.below HO.out.be).below HB4.out) (by have := HBL.out; simp; omega) HB4.out.size
                    rw [List.nil_append] at hr
                    refine wp_append_runR _ _ _ _ _ rfl rfl _ _ (.slice ja jn jc) V5 rfl rfl hrun ?_
                    have HF := hideL hr
                    have HR := hideL (HR.out.keep hk (fun q hq he => ORT.out q hq (by injection he with he; exact he.symm)))
                    have OFK := hideL (own_off ho rfl NTK.out HK.out.lt)
                    have HK : HidL (ABox V5 gk 0 (.slice none 0 0) (.slice none 0 0)) := ⟨(hk.block gk HK.out.lt (fun e => NTK.out (by injection e))).trans HK.out⟩
                    have HB5 := hideL (HB4.out.trans (hk.below (fun q hq => HT.out.ge hq) HB4.out.size))
                    clear hrun hr hk ho HT
                    refine hK.out _ _ (HB5.out) (fun hHeld => ?_)
                    clear hK K
                    try simp only [pA, pB, pC, pD]
                    refine tl 9 rfl hHeld ?_
                    try simp only [pA, pB, pC, pD]
                    refine wpAnyH_ready (rs := [11]) (by kernel_rfl) (by simp) ?_
                    refine AllReadyH.cons (o := ⟨_, _, _, _, _, _⟩) rfl (fun K hK => ?_) AllReadyH.nil
                    clear hHeld
                    rw [if_pos (by rfl)]
                    refine wp_store_row _ _ _ rfl gk #[.int .i64 N, .slice ka kn kc, .slice ja jn jc] rfl rfl _ _ HK.out sizeAn rfl (oneAn _ _ _ _ _ _ _) ?_
                    have hks := keep_setRow V5 gk #[.int .i64 N, .slice ka kn kc, .slice ja jn jc]
                    have HK := hideL (HK.out.put N (.slice ka kn kc) (.slice ja jn jc))
                    have HR := hideL (HR.out.keep hks (fun q hq he => ORK.out q hq he))
                    have HF := hideL (HF.out.keep hks (fun q hq he => OFK.out q hq he))
                    have HB6 := hideL (HB5.out.trans (hks.below (fun q hq => by have := HGE.out; omega) HB5.out.size))
                    clear hks
                    refine hK.out _ _ (HB6.out) (fun hHeld => ?_)
                    clear hK K
                    try simp only [Act.put]
                    refine wpAnyH_done (by kernel_rfl) ?_ _
                    clear hHeld
                    go_wp2_with fail
                    go_meet
                    case rel => exact ⟨gk, ka, kn, kc, ja, jn, jc, rfl, HGE.out, HK.out, HR.out, HF.out, HB6.out⟩
                · clear hHeld
                  rw [if_pos (by rfl)]
                  refine wp_alloc_a rfl ?_
                  have hz := (Below.refl V2.heap.size V2).alloc (Nat.le_refl _) (anC 0 (.slice none 0 0) (.slice none 0 0))
                  have HK0 := hideL (ABox.new V2 0 (.slice none 0 0) (.slice none 0 0))
                  have HGE := hideL (show W2.heap.size ≤ V2.heap.size from HB2.out.size)
                  have NAK := hideL (show gA ≠ V2.heap.size from Nat.ne_of_lt (HA.out.lt rfl))
                  have NTK := hideL (show gT ≠ V2.heap.size from Nat.ne_of_lt (HT.out.lt rfl))
                  have HA := hideL (HA.out.below hz)
                  have HT := hideL (HT.out.below hz)
                  have HB3 := hideL (HB2.out.trans (hz.mono HB2.out.size))
                  clear hz
                  obtain ⟨gk, hg⟩ : ∃ g, g = V2.heap.size := ⟨_, rfl⟩
                  rw [← hg] at HK0 NAK NTK HGE ⊢
                  clear hg
                  obtain ⟨V3, hV⟩ : ∃ x, x = V2.alloc (anC 0 (.slice none 0 0) (.slice none 0 0)) := ⟨_, rfl⟩
                  rw [← hV] at HK0 HB3 HA HT ⊢
                  clear hV
                  have HK := HK0
                  clear HK0
                  refine hK.out _ _ (HB3.out) (fun hHeld => ?_)
                  clear hK K
                  try simp only [pA, pB, pC, pD]
                  refine wpAnyH_ready (rs := [4]) (by kernel_rfl) (by simp) ?_
                  refine AllReadyH.cons (o := ⟨_, _, _, _, _, _⟩) rfl (fun K hK => ?_) AllReadyH.nil
                  clear hHeld
                  rw [if_pos (by rfl)]
                  obtain ⟨ka, kn, kc, V4, hrun, hr, hk, ho⟩ := head_keep V3 W2.heap.size _ [] HA.out (.slice ha hn hc) x.heads ((GH.out.below HO.out.be).below HB3.out) (by have := HHL.out; simp; omega) HB3.out.size
                  rw [List.nil_append] at hr
                  refine wp_append_runR _ _ _ _ _ rfl rfl _ _ (.slice ka kn kc) V4 rfl rfl hrun ?_
                  have HR := hideL hr
                  have ORT := hideL (own_off ho rfl NAT.out (HT.out.lt rfl))
                  have HT := hideL (HT.out.keep hk (fun q hq he => NAT.out (by injection hq with hq; injection he with he; exact he.trans hq.symm)))
                  have ORK := hideL (own_off ho rfl NAK.out HK.out.lt)
                  have HK : HidL (ABox V4 gk 0 (.slice none 0 0) (.slice none 0 0)) := ⟨(hk.block gk HK.out.lt (fun e => NAK.out (by injection e))).trans HK.out⟩
                  have HB4 := hideL (HB3.out.trans (hk.below (fun q hq => HA.out.ge hq) HB3.out.size))
                  clear hrun hr hk ho HA
                  refine hK.out _ _ (HB4.out) (fun hHeld => ?_)
                  clear hK K
                  try simp only [pA, pB, pC, pD]
                  refine wpAnyH_ready (rs := [8]) (by kernel_rfl) (by simp) ?_
                  refine AllReadyH.cons (o := ⟨_, _, _, _, _, _⟩) rfl (fun K hK => ?_) AllReadyH.nil
                  clear hHeld
                  rw [if_pos (by rfl)]
                  obtain ⟨ja, jn, jc, V5, hrun, hr, hk, ho⟩ := byte_keep V4 W2.heap.size _ [] HT.out (.slice ba bn bc) x.body ((GB.out.below HO.out.be).below HB4.out) (by have := HBL.out; simp; omega) HB4.out.size
                  rw [List.nil_append] at hr
                  refine wp_append_runR _ _ _ _ _ rfl rfl _ _ (.slice ja jn jc) V5 rfl rfl hrun ?_
                  have HF := hideL hr
                  have HR := hideL (HR.out.keep hk (fun q hq he => ORT.out q hq (by injection he with he; exact he.symm)))
                  have OFK := hideL (own_off ho rfl NTK.out HK.out.lt)
                  have HK : HidL (ABox V5 gk 0 (.slice none 0 0) (.slice none 0 0)) := ⟨(hk.block gk HK.out.lt (fun e => NTK.out (by injection e))).trans HK.out⟩
                  have HB5 := hideL (HB4.out.trans (hk.below (fun q hq => HT.out.ge hq) HB4.out.size))
                  clear hrun hr hk ho HT
                  refine hK.out _ _ (HB5.out) (fun hHeld => ?_)
                  clear hK K
                  try simp only [pA, pB, pC, pD]
                  refine tl 9 rfl hHeld ?_
                  try simp only [pA, pB, pC, pD]
                  refine wpAnyH_ready (rs := [11]) (by kernel_rfl) (by simp) ?_
                  refine AllReadyH.cons (o := ⟨_, _, _, _, _, _⟩) rfl (fun K hK => ?_) AllReadyH.nil
                  clear hHeld
                  rw [if_pos (by rfl)]
                  refine wp_store_row _ _ _ rfl gk #[.int .i64 N, .slice ka kn kc, .slice ja jn jc] rfl rfl _ _ HK.out sizeAn rfl (oneAn _ _ _ _ _ _ _) ?_
                  have hks := keep_setRow V5 gk #[.int .i64 N, .slice ka kn kc, .slice ja jn jc]
                  have HK := hideL (HK.out.put N (.slice ka kn kc) (.slice ja jn jc))
                  have HR := hideL (HR.out.keep hks (fun q hq he => ORK.out q hq he))
                  have HF := hideL (HF.out.keep hks (fun q hq he => OFK.out q hq he))
                  have HB6 := hideL (HB5.out.trans (hks.below (fun q hq => by have := HGE.out; omega) HB5.out.size))
                  clear hks
                  refine hK.out _ _ (HB6.out) (fun hHeld => ?_)
                  clear hK K
                  try simp only [Act.put]
                  refine wpAnyH_done (by kernel_rfl) ?_ _
                  clear hHeld
                  go_wp2_with fail
                  go_meet
                  case rel => exact ⟨gk, ka, kn, kc, ja, jn, jc, rfl, HGE.out, HK.out, HR.out, HF.out, HB6.out⟩
              · clear hHeld
                rw [if_pos (by rfl)]
                refine wp_alloc_a rfl ?_
                have hz := (Below.refl V1.heap.size V1).alloc (Nat.le_refl _) (anC 0 (.slice none 0 0) (.slice none 0 0))
                have HK0 := hideL (ABox.new V1 0 (.slice none 0 0) (.slice none 0 0))
                have HGE := hideL (show W2.heap.size ≤ V1.heap.size from HB1.out.size)
                have NAK := hideL (show gA ≠ V1.heap.size from Nat.ne_of_lt (HA.out.lt rfl))
                have HA := hideL (HA.out.below hz)
                have HB2 := hideL (HB1.out.trans (hz.mono HB1.out.size))
                clear hz
                obtain ⟨gk, hg⟩ : ∃ g, g = V1.heap.size := ⟨_, rfl⟩
                rw [← hg] at HK0 NAK HGE ⊢
                clear hg
                obtain ⟨V2, hV⟩ : ∃ x, x = V1.alloc (anC 0 (.slice none 0 0) (.slice none 0 0)) := ⟨_, rfl⟩
                rw [← hV] at HK0 HB2 HA ⊢
                clear hV
                have HK := HK0
                clear HK0
                refine hK.out _ _ (HB2.out) (fun hHeld => ?_)
                clear hK K
                try simp only [pA, pB, pC, pD]
                refine wpAnyH_ready (rs := [4, 5]) (by kernel_rfl) (by simp) ?_
                refine AllReadyH.cons (o := ⟨_, _, _, _, _, _⟩) rfl (fun K hK => ?_) (AllReadyH.cons (o := ⟨_, _, _, _, _, _⟩) rfl (fun K hK => ?_) AllReadyH.nil)
                · clear hHeld
                  rw [if_pos (by rfl)]
                  obtain ⟨ka, kn, kc, V3, hrun, hr, hk, ho⟩ := head_keep V2 W2.heap.size _ [] HA.out (.slice ha hn hc) x.heads ((GH.out.below HO.out.be).below HB2.out) (by have := HHL.out; simp; omega) HB2.out.size
                  rw [List.nil_append] at hr
                  refine wp_append_runR _ _ _ _ _ rfl rfl _ _ (.slice ka kn kc) V3 rfl rfl hrun ?_
                  have HR := hideL hr
                  have ORK := hideL (own_off ho rfl NAK.out HK.out.lt)
                  have HK : HidL (ABox V3 gk 0 (.slice none 0 0) (.slice none 0 0)) := ⟨(hk.block gk HK.out.lt (fun e => NAK.out (by injection e))).trans HK.out⟩
                  have HB3 := hideL (HB2.out.trans (hk.below (fun q hq => HA.out.ge hq) HB2.out.size))
                  clear hrun hr hk ho HA
                  refine hK.out _ _ (HB3.out) (fun hHeld => ?_)
                  clear hK K
                  try simp only [pA, pB, pC, pD]
                  refine wpAnyH_ready (rs := [5]) (by kernel_rfl) (by simp) ?_
                  refine AllReadyH.cons (o := ⟨_, _, _, _, _, _⟩) rfl (fun K hK => ?_) AllReadyH.nil
                  clear hHeld
                  go_simp
                  have hz := (Below.refl V3.heap.size V3).alloc (Nat.le_refl _) (.cells #[] 5)
                  have HT0 : HidL (GRow KB (V3.alloc (.cells #[] 5)) W2.heap.size (.slice (some ⟨V3.heap.size, 0, none⟩) 0 0) []) := ⟨GRow.lit (K := KB) V3 W2.heap.size [] HB3.out.size (by decide)⟩
                  have ORT := hideL (show ∀ q, (Value.slice ka kn kc).ownBlock = some q → q ≠ V3.heap.size from fun q hq => Nat.ne_of_lt (HR.out.lt hq))
                  have NTK := hideL (show V3.heap.size ≠ gk from (Nat.ne_of_lt HK.out.lt).symm)
                  have HR := hideL (HR.out.below hz)
                  have HK := hideL (HK.out.next hz)
                  have HB4 := hideL (HB3.out.trans (hz.mono HB3.out.size))
                  clear hz
                  obtain ⟨gT, hg⟩ : ∃ g, g = V3.heap.size := ⟨_, rfl⟩
                  rw [← hg] at HT0 ORT NTK ⊢
                  clear hg
                  obtain ⟨V4, hV⟩ : ∃ x, x = V3.alloc (.cells #[] 5) := ⟨_, rfl⟩
                  rw [← hV] at HT0 HB4 HR HK ⊢
                  clear hV
                  have HT := HT0
                  clear HT0
                  refine hK.out _ _ (HB4.out) (fun hHeld => ?_)
                  clear hK K
                  try simp only [pA, pB, pC, pD]
                  refine wpAnyH_ready (rs := [8]) (by kernel_rfl) (by simp) ?_
                  refine AllReadyH.cons (o := ⟨_, _, _, _, _, _⟩) rfl (fun K hK => ?_) AllReadyH.nil
                  clear hHeld
                  rw [if_pos (by rfl)]
                  obtain ⟨ja, jn, jc, V5, hrun, hr, hk, ho⟩ := byte_keep V4 W2.heap.size _ [] HT.out (.slice ba bn bc) x.body ((GB.out.below HO.out.be).below HB4.out) (by have := HBL.out; simp; omega) HB4.out.size
                  rw [List.nil_append] at hr
                  refine wp_append_runR _ _ _ _ _ rfl rfl _ _ (.slice ja jn jc) V5 rfl rfl hrun ?_
                  have HF := hideL hr
                  have HR := hideL (HR.out.keep hk (fun q hq he => ORT.out q hq (by injection he with he; exact he.symm)))
                  have OFK := hideL (own_off ho rfl NTK.out HK.out.lt)
                  have HK : HidL (ABox V5 gk 0 (.slice none 0 0) (.slice none 0 0)) := ⟨(hk.block gk HK.out.lt (fun e => NTK.out (by injection e))).trans HK.out⟩
                  have HB5 := hideL (HB4.out.trans (hk.below (fun q hq => HT.out.ge hq) HB4.out.size))
                  clear hrun hr hk ho HT
                  refine hK.out _ _ (HB5.out) (fun hHeld => ?_)
                  clear hK K
                  try simp only [pA, pB, pC, pD]
                  refine tl 9 rfl hHeld ?_
                  try simp only [pA, pB, pC, pD]
                  refine wpAnyH_ready (rs := [11]) (by kernel_rfl) (by simp) ?_
                  refine AllReadyH.cons (o := ⟨_, _, _, _, _, _⟩) rfl (fun K hK => ?_) AllReadyH.nil
                  clear hHeld
                  rw [if_pos (by rfl)]
                  refine wp_store_row _ _ _ rfl gk #[.int .i64 N, .slice ka kn kc, .slice ja jn jc] rfl rfl _ _ HK.out sizeAn rfl (oneAn _ _ _ _ _ _ _) ?_
                  have hks := keep_setRow V5 gk #[.int .i64 N, .slice ka kn kc, .slice ja jn jc]
                  have HK := hideL (HK.out.put N (.slice ka kn kc) (.slice ja jn jc))
                  have HR := hideL (HR.out.keep hks (fun q hq he => ORK.out q hq he))
                  have HF := hideL (HF.out.keep hks (fun q hq he => OFK.out q hq he))
                  have HB6 := hideL (HB5.out.trans (hks.below (fun q hq => by have := HGE.out; omega) HB5.out.size))
                  clear hks
                  refine hK.out _ _ (HB6.out) (fun hHeld => ?_)
                  clear hK K
                  try simp only [Act.put]
                  refine wpAnyH_done (by kernel_rfl) ?_ _
                  clear hHeld
                  go_wp2_with fail
                  go_meet
                  case rel => exact ⟨gk, ka, kn, kc, ja, jn, jc, rfl, HGE.out, HK.out, HR.out, HF.out, HB6.out⟩
                · clear hHeld
                  go_simp
                  have hz := (Below.refl V2.heap.size V2).alloc (Nat.le_refl _) (.cells #[] 5)
                  have HT0 : HidL (GRow KB (V2.alloc (.cells #[] 5)) W2.heap.size (.slice (some ⟨V2.heap.size, 0, none⟩) 0 0) []) := ⟨GRow.lit (K := KB) V2 W2.heap.size [] HB2.out.size (by decide)⟩
                  have NAT := hideL (show gA ≠ V2.heap.size from Nat.ne_of_lt (HA.out.lt rfl))
                  have NTK := hideL (show V2.heap.size ≠ gk from (Nat.ne_of_lt HK.out.lt).symm)
                  have HA := hideL (HA.out.below hz)
                  have HK := hideL (HK.out.next hz)
                  have HB3 := hideL (HB2.out.trans (hz.mono HB2.out.size))
                  clear hz
                  obtain ⟨gT, hg⟩ : ∃ g, g = V2.heap.size := ⟨_, rfl⟩
                  rw [← hg] at HT0 NAT NTK ⊢
                  clear hg
                  obtain ⟨V3, hV⟩ : ∃ x, x = V2.alloc (.cells #[] 5) := ⟨_, rfl⟩
                  rw [← hV] at HT0 HB3 HA HK ⊢
                  clear hV
                  have HT := HT0
                  clear HT0
                  refine hK.out _ _ (HB3.out) (fun hHeld => ?_)
                  clear hK K
                  try simp only [pA, pB, pC, pD]
                  refine wpAnyH_ready (rs := [4]) (by kernel_rfl) (by simp) ?_
                  refine AllReadyH.cons (o := ⟨_, _, _, _, _, _⟩) rfl (fun K hK => ?_) AllReadyH.nil
                  clear hHeld
                  rw [if_pos (by rfl)]
                  obtain ⟨ka, kn, kc, V4, hrun, hr, hk, ho⟩ := head_keep V3 W2.heap.size _ [] HA.out (.slice ha hn hc) x.heads ((GH.out.below HO.out.be).below HB3.out) (by have := HHL.out; simp; omega) HB3.out.size
                  rw [List.nil_append] at hr
                  refine wp_append_runR _ _ _ _ _ rfl rfl _ _ (.slice ka kn kc) V4 rfl rfl hrun ?_
                  have HR := hideL hr
                  have ORT := hideL (own_off ho rfl NAT.out (HT.out.lt rfl))
                  have HT := hideL (HT.out.keep hk (fun q hq he => NAT.out (by injection hq with hq; injection he with he; exact he.trans hq.symm)))
                  have ORK := hideL (own_off ho rfl NAK.out HK.out.lt)
                  have HK : HidL (ABox V4 gk 0 (.slice none 0 0) (.slice none 0 0)) := ⟨(hk.block gk HK.out.lt (fun e => NAK.out (by injection e))).trans HK.out⟩
                  have HB4 := hideL (HB3.out.trans (hk.below (fun q hq => HA.out.ge hq) HB3.out.size))
                  clear hrun hr hk ho HA
                  refine hK.out _ _ (HB4.out) (fun hHeld => ?_)
                  clear hK K
                  try simp only [pA, pB, pC, pD]
                  refine wpAnyH_ready (rs := [8]) (by kernel_rfl) (by simp) ?_
                  refine AllReadyH.cons (o := ⟨_, _, _, _, _, _⟩) rfl (fun K hK => ?_) AllReadyH.nil
                  clear hHeld
                  rw [if_pos (by rfl)]
                  obtain ⟨ja, jn, jc, V5, hrun, hr, hk, ho⟩ := byte_keep V4 W2.heap.size _ [] HT.out (.slice ba bn bc) x.body ((GB.out.below HO.out.be).below HB4.out) (by have := HBL.out; simp; omega) HB4.out.size
                  rw [List.nil_append] at hr
                  refine wp_append_runR _ _ _ _ _ rfl rfl _ _ (.slice ja jn jc) V5 rfl rfl hrun ?_
                  have HF := hideL hr
                  have HR := hideL (HR.out.keep hk (fun q hq he => ORT.out q hq (by injection he with he; exact he.symm)))
                  have OFK := hideL (own_off ho rfl NTK.out HK.out.lt)
                  have HK : HidL (ABox V5 gk 0 (.slice none 0 0) (.slice none 0 0)) := ⟨(hk.block gk HK.out.lt (fun e => NTK.out (by injection e))).trans HK.out⟩
                  have HB5 := hideL (HB4.out.trans (hk.below (fun q hq => HT.out.ge hq) HB4.out.size))
                  clear hrun hr hk ho HT
                  refine hK.out _ _ (HB5.out) (fun hHeld => ?_)
                  clear hK K
                  try simp only [pA, pB, pC, pD]
                  refine tl 9 rfl hHeld ?_
                  try simp only [pA, pB, pC, pD]
                  refine wpAnyH_ready (rs := [11]) (by kernel_rfl) (by simp) ?_
                  refine AllReadyH.cons (o := ⟨_, _, _, _, _, _⟩) rfl (fun K hK => ?_) AllReadyH.nil
                  clear hHeld
                  rw [if_pos (by rfl)]
                  refine wp_store_row _ _ _ rfl gk #[.int .i64 N, .slice ka kn kc, .slice ja jn jc] rfl rfl _ _ HK.out sizeAn rfl (oneAn _ _ _ _ _ _ _) ?_
                  have hks := keep_setRow V5 gk #[.int .i64 N, .slice ka kn kc, .slice ja jn jc]
                  have HK := hideL (HK.out.put N (.slice ka kn kc) (.slice ja jn jc))
                  have HR := hideL (HR.out.keep hks (fun q hq he => ORK.out q hq he))
                  have HF := hideL (HF.out.keep hks (fun q hq he => OFK.out q hq he))
                  have HB6 := hideL (HB5.out.trans (hks.below (fun q hq => by have := HGE.out; omega) HB5.out.size))
                  clear hks
                  refine hK.out _ _ (HB6.out) (fun hHeld => ?_)
                  clear hK K
                  try simp only [Act.put]
                  refine wpAnyH_done (by kernel_rfl) ?_ _
                  clear hHeld
                  go_wp2_with fail
                  go_meet
                  case rel => exact ⟨gk, ka, kn, kc, ja, jn, jc, rfl, HGE.out, HK.out, HR.out, HF.out, HB6.out⟩
            · clear hHeld
              go_simp
              have hz := (Below.refl V0.heap.size V0).alloc (Nat.le_refl _) (.cells #[] 5)
              have HT0 : HidL (GRow KB (V0.alloc (.cells #[] 5)) W2.heap.size (.slice (some ⟨V0.heap.size, 0, none⟩) 0 0) []) := ⟨GRow.lit (K := KB) V0 W2.heap.size [] HB0.out.size (by decide)⟩
              have HB1 := hideL (HB0.out.trans (hz.mono HB0.out.size))
              clear hz
              obtain ⟨gT, hg⟩ : ∃ g, g = V0.heap.size := ⟨_, rfl⟩
              rw [← hg] at HT0 ⊢
              clear hg
              obtain ⟨V1, hV⟩ : ∃ x, x = V0.alloc (.cells #[] 5) := ⟨_, rfl⟩
              rw [← hV] at HT0 HB1 ⊢
              clear hV
              have HT := HT0
              clear HT0
              refine hK.out _ _ (HB1.out) (fun hHeld => ?_)
              clear hK K
              try simp only [pA, pB, pC, pD]
              refine wpAnyH_ready (rs := [1, 10]) (by kernel_rfl) (by simp) ?_
              refine AllReadyH.cons (o := ⟨_, _, _, _, _, _⟩) rfl (fun K hK => ?_) (AllReadyH.cons (o := ⟨_, _, _, _, _, _⟩) rfl (fun K hK => ?_) AllReadyH.nil)
              · clear hHeld
                go_simp
                have hz := (Below.refl V1.heap.size V1).alloc (Nat.le_refl _) (.cells #[] 83)
                have HA0 : HidL (GRow KH (V1.alloc (.cells #[] 83)) W2.heap.size (.slice (some ⟨V1.heap.size, 0, none⟩) 0 0) []) := ⟨GRow.lit (K := KH) V1 W2.heap.size [] HB1.out.size (by decide)⟩
                have NAT := hideL (show V1.heap.size ≠ gT from (Nat.ne_of_lt (HT.out.lt rfl)).symm)
                have HT := hideL (HT.out.below hz)
                have HB2 := hideL (HB1.out.trans (hz.mono HB1.out.size))
                clear hz
                obtain ⟨gA, hg⟩ : ∃ g, g = V1.heap.size := ⟨_, rfl⟩
                rw [← hg] at HA0 NAT ⊢
                clear hg
                obtain ⟨V2, hV⟩ : ∃ x, x = V1.alloc (.cells #[] 83) := ⟨_, rfl⟩
                rw [← hV] at HA0 HB2 HT ⊢
                clear hV
                have HA := HA0
                clear HA0
                refine hK.out _ _ (HB2.out) (fun hHeld => ?_)
                clear hK K
                try simp only [pA, pB, pC, pD]
                refine wpAnyH_ready (rs := [4, 10]) (by kernel_rfl) (by simp) ?_
                refine AllReadyH.cons (o := ⟨_, _, _, _, _, _⟩) rfl (fun K hK => ?_) (AllReadyH.cons (o := ⟨_, _, _, _, _, _⟩) rfl (fun K hK => ?_) AllReadyH.nil)
                · clear hHeld
                  rw [if_pos (by rfl)]
                  obtain ⟨ka, kn, kc, V3, hrun, hr, hk, ho⟩ := head_keep V2 W2.heap.size _ [] HA.out (.slice ha hn hc) x.heads ((GH.out.below HO.out.be).below HB2.out) (by have := HHL.out; simp; omega) HB2.out.size
                  rw [List.nil_append] at hr
                  refine wp_append_runR _ _ _ _ _ rfl rfl _ _ (.slice ka kn kc) V3 rfl rfl hrun ?_
                  have HR := hideL hr
                  have ORT := hideL (own_off ho rfl NAT.out (HT.out.lt rfl))
                  have HT := hideL (HT.out.keep hk (fun q hq he => NAT.out (by injection hq with hq; injection he with he; exact he.trans hq.symm)))
                  have HB3 := hideL (HB2.out.trans (hk.below (fun q hq => HA.out.ge hq) HB2.out.size))
                  clear hrun hr hk ho HA
                  refine hK.out _ _ (HB3.out) (fun hHeld => ?_)
                  clear hK K
                  try simp only [pA, pB, pC, pD]
                  refine wpAnyH_ready (rs := [8, 10]) (by kernel_rfl) (by simp) ?_
                  refine AllReadyH.cons (o := ⟨_, _, _, _, _, _⟩) rfl (fun K hK => ?_) (AllReadyH.cons (o := ⟨_, _, _, _, _, _⟩) rfl (fun K hK => ?_) AllReadyH.nil)
                  · clear hHeld
                    rw [if_pos (by rfl)]
                    obtain ⟨ja, jn, jc, V4, hrun, hr, hk, ho⟩ := byte_keep V3 W2.heap.size _ [] HT.out (.slice ba bn bc) x.body ((GB.out.below HO.out.be).below HB3.out) (by have := HBL.out; simp; omega) HB3.out.size
                    rw [List.nil_append] at hr
                    refine wp_append_runR _ _ _ _ _ rfl rfl _ _ (.slice ja jn jc) V4 rfl rfl hrun ?_
                    have HF := hideL hr
                    have HR := hideL (HR.out.keep hk (fun q hq he => ORT.out q hq (by injection he with he; exact he.symm)))
                    have HB4 := hideL (HB3.out.trans (hk.below (fun q hq => HT.out.ge hq) HB3.out.size))
                    clear hrun hr hk ho HT
                    refine hK.out _ _ (HB4.out) (fun hHeld => ?_)
                    clear hK K
                    try simp only [pA, pB, pC, pD]
                    refine tl 9 rfl hHeld ?_
                    try simp only [pA, pB, pC, pD]
                    refine wpAnyH_ready (rs := [10]) (by kernel_rfl) (by simp) ?_
                    refine AllReadyH.cons (o := ⟨_, _, _, _, _, _⟩) rfl (fun K hK => ?_) AllReadyH.nil
                    clear hHeld
                    rw [if_pos (by rfl)]
                    refine wp_alloc_a rfl ?_
                    have hz := (Below.refl V4.heap.size V4).alloc (Nat.le_refl _) (anC 0 (.slice none 0 0) (.slice none 0 0))
                    have HK0 := hideL (ABox.new V4 0 (.slice none 0 0) (.slice none 0 0))
                    have HGE := hideL (show W2.heap.size ≤ V4.heap.size from HB4.out.size)
                    have ORK := hideL (show ∀ q, (Value.slice ka kn kc).ownBlock = some q → q ≠ V4.heap.size from fun q hq => Nat.ne_of_lt (HR.out.lt hq))
                    have OFK := hideL (show ∀ q, (Value.slice ja jn jc).ownBlock = some q → q ≠ V4.heap.size from fun q hq => Nat.ne_of_lt (HF.out.lt hq))
                    have HR := hideL (HR.out.below hz)
                    have HF := hideL (HF.out.below hz)
                    have HB5 := hideL (HB4.out.trans (hz.mono HB4.out.size))
                    clear hz
                    obtain ⟨gk, hg⟩ : ∃ g, g = V4.heap.size := ⟨_, rfl⟩
                    rw [← hg] at HK0 ORK OFK HGE ⊢
                    clear hg
                    obtain ⟨V5, hV⟩ : ∃ x, x = V4.alloc (anC 0 (.slice none 0 0) (.slice none 0 0)) := ⟨_, rfl⟩
                    rw [← hV] at HK0 HB5 HR HF ⊢
                    clear hV
                    have HK := HK0
                    clear HK0
                    refine hK.out _ _ (HB5.out) (fun hHeld => ?_)
                    clear hK K
                    try simp only [pA, pB, pC, pD]
                    refine wpAnyH_ready (rs := [11]) (by kernel_rfl) (by simp) ?_
                    refine AllReadyH.cons (o := ⟨_, _, _, _, _, _⟩) rfl (fun K hK => ?_) AllReadyH.nil
                    clear hHeld
                    rw [if_pos (by rfl)]
                    refine wp_store_row _ _ _ rfl gk #[.int .i64 N, .slice ka kn kc, .slice ja jn jc] rfl rfl _ _ HK.out sizeAn rfl (oneAn _ _ _ _ _ _ _) ?_
                    have hks := keep_setRow V5 gk #[.int .i64 N, .slice ka kn kc, .slice ja jn jc]
                    have HK := hideL (HK.out.put N (.slice ka kn kc) (.slice ja jn jc))
                    have HR := hideL (HR.out.keep hks (fun q hq he => ORK.out q hq he))
                    have HF := hideL (HF.out.keep hks (fun q hq he => OFK.out q hq he))
                    have HB6 := hideL (HB5.out.trans (hks.below (fun q hq => by have := HGE.out; omega) HB5.out.size))
                    clear hks
                    refine hK.out _ _ (HB6.out) (fun hHeld => ?_)
                    clear hK K
                    try simp only [Act.put]
                    refine wpAnyH_done (by kernel_rfl) ?_ _
                    clear hHeld
                    go_wp2_with fail
                    go_meet
                    case rel => exact ⟨gk, ka, kn, kc, ja, jn, jc, rfl, HGE.out, HK.out, HR.out, HF.out, HB6.out⟩
                  · clear hHeld
                    rw [if_pos (by rfl)]
                    refine wp_alloc_a rfl ?_
                    have hz := (Below.refl V3.heap.size V3).alloc (Nat.le_refl _) (anC 0 (.slice none 0 0) (.slice none 0 0))
                    have HK0 := hideL (ABox.new V3 0 (.slice none 0 0) (.slice none 0 0))
                    have HGE := hideL (show W2.heap.size ≤ V3.heap.size from HB3.out.size)
                    have ORK := hideL (show ∀ q, (Value.slice ka kn kc).ownBlock = some q → q ≠ V3.heap.size from fun q hq => Nat.ne_of_lt (HR.out.lt hq))
                    have NTK := hideL (show gT ≠ V3.heap.size from Nat.ne_of_lt (HT.out.lt rfl))
                    have HR := hideL (HR.out.below hz)
                    have HT := hideL (HT.out.below hz)
                    have HB4 := hideL (HB3.out.trans (hz.mono HB3.out.size))
                    clear hz
                    obtain ⟨gk, hg⟩ : ∃ g, g = V3.heap.size := ⟨_, rfl⟩
                    rw [← hg] at HK0 ORK NTK HGE ⊢
                    clear hg
                    obtain ⟨V4, hV⟩ : ∃ x, x = V3.alloc (anC 0 (.slice none 0 0) (.slice none 0 0)) := ⟨_, rfl⟩
                    rw [← hV] at HK0 HB4 HR HT ⊢
                    clear hV
                    have HK := HK0
                    clear HK0
                    refine hK.out _ _ (HB4.out) (fun hHeld => ?_)
                    clear hK K
                    try simp only [pA, pB, pC, pD]
                    refine wpAnyH_ready (rs := [8]) (by kernel_rfl) (by simp) ?_
                    refine AllReadyH.cons (o := ⟨_, _, _, _, _, _⟩) rfl (fun K hK => ?_) AllReadyH.nil
                    clear hHeld
                    rw [if_pos (by rfl)]
                    obtain ⟨ja, jn, jc, V5, hrun, hr, hk, ho⟩ := byte_keep V4 W2.heap.size _ [] HT.out (.slice ba bn bc) x.body ((GB.out.below HO.out.be).below HB4.out) (by have := HBL.out; simp; omega) HB4.out.size
                    rw [List.nil_append] at hr
                    refine wp_append_runR _ _ _ _ _ rfl rfl _ _ (.slice ja jn jc) V5 rfl rfl hrun ?_
                    have HF := hideL hr
                    have HR := hideL (HR.out.keep hk (fun q hq he => ORT.out q hq (by injection he with he; exact he.symm)))
                    have OFK := hideL (own_off ho rfl NTK.out HK.out.lt)
                    have HK : HidL (ABox V5 gk 0 (.slice none 0 0) (.slice none 0 0)) := ⟨(hk.block gk HK.out.lt (fun e => NTK.out (by injection e))).trans HK.out⟩
                    have HB5 := hideL (HB4.out.trans (hk.below (fun q hq => HT.out.ge hq) HB4.out.size))
                    clear hrun hr hk ho HT
                    refine hK.out _ _ (HB5.out) (fun hHeld => ?_)
                    clear hK K
                    try simp only [pA, pB, pC, pD]
                    refine tl 9 rfl hHeld ?_
                    try simp only [pA, pB, pC, pD]
                    refine wpAnyH_ready (rs := [11]) (by kernel_rfl) (by simp) ?_
                    refine AllReadyH.cons (o := ⟨_, _, _, _, _, _⟩) rfl (fun K hK => ?_) AllReadyH.nil
                    clear hHeld
                    rw [if_pos (by rfl)]
                    refine wp_store_row _ _ _ rfl gk #[.int .i64 N, .slice ka kn kc, .slice ja jn jc] rfl rfl _ _ HK.out sizeAn rfl (oneAn _ _ _ _ _ _ _) ?_
                    have hks := keep_setRow V5 gk #[.int .i64 N, .slice ka kn kc, .slice ja jn jc]
                    have HK := hideL (HK.out.put N (.slice ka kn kc) (.slice ja jn jc))
                    have HR := hideL (HR.out.keep hks (fun q hq he => ORK.out q hq he))
                    have HF := hideL (HF.out.keep hks (fun q hq he => OFK.out q hq he))
                    have HB6 := hideL (HB5.out.trans (hks.below (fun q hq => by have := HGE.out; omega) HB5.out.size))
                    clear hks
                    refine hK.out _ _ (HB6.out) (fun hHeld => ?_)
                    clear hK K
                    try simp only [Act.put]
                    refine wpAnyH_done (by kernel_rfl) ?_ _
                    clear hHeld
                    go_wp2_with fail
                    go_meet
                    case rel => exact ⟨gk, ka, kn, kc, ja, jn, jc, rfl, HGE.out, HK.out, HR.out, HF.out, HB6.out⟩
                · clear hHeld
                  rw [if_pos (by rfl)]
                  refine wp_alloc_a rfl ?_
                  have hz := (Below.refl V2.heap.size V2).alloc (Nat.le_refl _) (anC 0 (.slice none 0 0) (.slice none 0 0))
                  have HK0 := hideL (ABox.new V2 0 (.slice none 0 0) (.slice none 0 0))
                  have HGE := hideL (show W2.heap.size ≤ V2.heap.size from HB2.out.size)
                  have NAK := hideL (show gA ≠ V2.heap.size from Nat.ne_of_lt (HA.out.lt rfl))
                  have NTK := hideL (show gT ≠ V2.heap.size from Nat.ne_of_lt (HT.out.lt rfl))
                  have HA := hideL (HA.out.below hz)
                  have HT := hideL (HT.out.below hz)
                  have HB3 := hideL (HB2.out.trans (hz.mono HB2.out.size))
                  clear hz
                  obtain ⟨gk, hg⟩ : ∃ g, g = V2.heap.size := ⟨_, rfl⟩
                  rw [← hg] at HK0 NAK NTK HGE ⊢
                  clear hg
                  obtain ⟨V3, hV⟩ : ∃ x, x = V2.alloc (anC 0 (.slice none 0 0) (.slice none 0 0)) := ⟨_, rfl⟩
                  rw [← hV] at HK0 HB3 HA HT ⊢
                  clear hV
                  have HK := HK0
                  clear HK0
                  refine hK.out _ _ (HB3.out) (fun hHeld => ?_)
                  clear hK K
                  try simp only [pA, pB, pC, pD]
                  refine wpAnyH_ready (rs := [4]) (by kernel_rfl) (by simp) ?_
                  refine AllReadyH.cons (o := ⟨_, _, _, _, _, _⟩) rfl (fun K hK => ?_) AllReadyH.nil
                  clear hHeld
                  rw [if_pos (by rfl)]
                  obtain ⟨ka, kn, kc, V4, hrun, hr, hk, ho⟩ := head_keep V3 W2.heap.size _ [] HA.out (.slice ha hn hc) x.heads ((GH.out.below HO.out.be).below HB3.out) (by have := HHL.out; simp; omega) HB3.out.size
                  rw [List.nil_append] at hr
                  refine wp_append_runR _ _ _ _ _ rfl rfl _ _ (.slice ka kn kc) V4 rfl rfl hrun ?_
                  have HR := hideL hr
                  have ORT := hideL (own_off ho rfl NAT.out (HT.out.lt rfl))
                  have HT := hideL (HT.out.keep hk (fun q hq he => NAT.out (by injection hq with hq; injection he with he; exact he.trans hq.symm)))
                  have ORK := hideL (own_off ho rfl NAK.out HK.out.lt)
                  have HK : HidL (ABox V4 gk 0 (.slice none 0 0) (.slice none 0 0)) := ⟨(hk.block gk HK.out.lt (fun e => NAK.out (by injection e))).trans HK.out⟩
                  have HB4 := hideL (HB3.out.trans (hk.below (fun q hq => HA.out.ge hq) HB3.out.size))
                  clear hrun hr hk ho HA
                  refine hK.out _ _ (HB4.out) (fun hHeld => ?_)
                  clear hK K
                  try simp only [pA, pB, pC, pD]
                  refine wpAnyH_ready (rs := [8]) (by kernel_rfl) (by simp) ?_
                  refine AllReadyH.cons (o := ⟨_, _, _, _, _, _⟩) rfl (fun K hK => ?_) AllReadyH.nil
                  clear hHeld
                  rw [if_pos (by rfl)]
                  obtain ⟨ja, jn, jc, V5, hrun, hr, hk, ho⟩ := byte_keep V4 W2.heap.size _ [] HT.out (.slice ba bn bc) x.body ((GB.out.below HO.out.be).below HB4.out) (by have := HBL.out; simp; omega) HB4.out.size
                  rw [List.nil_append] at hr
                  refine wp_append_runR _ _ _ _ _ rfl rfl _ _ (.slice ja jn jc) V5 rfl rfl hrun ?_
                  have HF := hideL hr
                  have HR := hideL (HR.out.keep hk (fun q hq he => ORT.out q hq (by injection he with he; exact he.symm)))
                  have OFK := hideL (own_off ho rfl NTK.out HK.out.lt)
                  have HK : HidL (ABox V5 gk 0 (.slice none 0 0) (.slice none 0 0)) := ⟨(hk.block gk HK.out.lt (fun e => NTK.out (by injection e))).trans HK.out⟩
                  have HB5 := hideL (HB4.out.trans (hk.below (fun q hq => HT.out.ge hq) HB4.out.size))
                  clear hrun hr hk ho HT
                  refine hK.out _ _ (HB5.out) (fun hHeld => ?_)
                  clear hK K
                  try simp only [pA, pB, pC, pD]
                  refine tl 9 rfl hHeld ?_
                  try simp only [pA, pB, pC, pD]
                  refine wpAnyH_ready (rs := [11]) (by kernel_rfl) (by simp) ?_
                  refine AllReadyH.cons (o := ⟨_, _, _, _, _, _⟩) rfl (fun K hK => ?_) AllReadyH.nil
                  clear hHeld
                  rw [if_pos (by rfl)]
                  refine wp_store_row _ _ _ rfl gk #[.int .i64 N, .slice ka kn kc, .slice ja jn jc] rfl rfl _ _ HK.out sizeAn rfl (oneAn _ _ _ _ _ _ _) ?_
                  have hks := keep_setRow V5 gk #[.int .i64 N, .slice ka kn kc, .slice ja jn jc]
                  have HK := hideL (HK.out.put N (.slice ka kn kc) (.slice ja jn jc))
                  have HR := hideL (HR.out.keep hks (fun q hq he => ORK.out q hq he))
                  have HF := hideL (HF.out.keep hks (fun q hq he => OFK.out q hq he))
                  have HB6 := hideL (HB5.out.trans (hks.below (fun q hq => by have := HGE.out; omega) HB5.out.size))
                  clear hks
                  refine hK.out _ _ (HB6.out) (fun hHeld => ?_)
                  clear hK K
                  try simp only [Act.put]
                  refine wpAnyH_done (by kernel_rfl) ?_ _
                  clear hHeld
                  go_wp2_with fail
                  go_meet
                  case rel => exact ⟨gk, ka, kn, kc, ja, jn, jc, rfl, HGE.out, HK.out, HR.out, HF.out, HB6.out⟩
              · clear hHeld
                rw [if_pos (by rfl)]
                refine wp_alloc_a rfl ?_
                have hz := (Below.refl V1.heap.size V1).alloc (Nat.le_refl _) (anC 0 (.slice none 0 0) (.slice none 0 0))
                have HK0 := hideL (ABox.new V1 0 (.slice none 0 0) (.slice none 0 0))
                have HGE := hideL (show W2.heap.size ≤ V1.heap.size from HB1.out.size)
                have NTK := hideL (show gT ≠ V1.heap.size from Nat.ne_of_lt (HT.out.lt rfl))
                have HT := hideL (HT.out.below hz)
                have HB2 := hideL (HB1.out.trans (hz.mono HB1.out.size))
                clear hz
                obtain ⟨gk, hg⟩ : ∃ g, g = V1.heap.size := ⟨_, rfl⟩
                rw [← hg] at HK0 NTK HGE ⊢
                clear hg
                obtain ⟨V2, hV⟩ : ∃ x, x = V1.alloc (anC 0 (.slice none 0 0) (.slice none 0 0)) := ⟨_, rfl⟩
                rw [← hV] at HK0 HB2 HT ⊢
                clear hV
                have HK := HK0
                clear HK0
                refine hK.out _ _ (HB2.out) (fun hHeld => ?_)
                clear hK K
                try simp only [pA, pB, pC, pD]
                refine wpAnyH_ready (rs := [1]) (by kernel_rfl) (by simp) ?_
                refine AllReadyH.cons (o := ⟨_, _, _, _, _, _⟩) rfl (fun K hK => ?_) AllReadyH.nil
                clear hHeld
                go_simp
                have hz := (Below.refl V2.heap.size V2).alloc (Nat.le_refl _) (.cells #[] 83)
                have HA0 : HidL (GRow KH (V2.alloc (.cells #[] 83)) W2.heap.size (.slice (some ⟨V2.heap.size, 0, none⟩) 0 0) []) := ⟨GRow.lit (K := KH) V2 W2.heap.size [] HB2.out.size (by decide)⟩
                have NAT := hideL (show V2.heap.size ≠ gT from (Nat.ne_of_lt (HT.out.lt rfl)).symm)
                have NAK := hideL (show V2.heap.size ≠ gk from (Nat.ne_of_lt HK.out.lt).symm)
                have HT := hideL (HT.out.below hz)
                have HK := hideL (HK.out.next hz)
                have HB3 := hideL (HB2.out.trans (hz.mono HB2.out.size))
                clear hz
                obtain ⟨gA, hg⟩ : ∃ g, g = V2.heap.size := ⟨_, rfl⟩
                rw [← hg] at HA0 NAT NAK ⊢
                clear hg
                obtain ⟨V3, hV⟩ : ∃ x, x = V2.alloc (.cells #[] 83) := ⟨_, rfl⟩
                rw [← hV] at HA0 HB3 HT HK ⊢
                clear hV
                have HA := HA0
                clear HA0
                refine hK.out _ _ (HB3.out) (fun hHeld => ?_)
                clear hK K
                try simp only [pA, pB, pC, pD]
                refine wpAnyH_ready (rs := [4]) (by kernel_rfl) (by simp) ?_
                refine AllReadyH.cons (o := ⟨_, _, _, _, _, _⟩) rfl (fun K hK => ?_) AllReadyH.nil
                clear hHeld
                rw [if_pos (by rfl)]
                obtain ⟨ka, kn, kc, V4, hrun, hr, hk, ho⟩ := head_keep V3 W2.heap.size _ [] HA.out (.slice ha hn hc) x.heads ((GH.out.below HO.out.be).below HB3.out) (by have := HHL.out; simp; omega) HB3.out.size
                rw [List.nil_append] at hr
                refine wp_append_runR _ _ _ _ _ rfl rfl _ _ (.slice ka kn kc) V4 rfl rfl hrun ?_
                have HR := hideL hr
                have ORT := hideL (own_off ho rfl NAT.out (HT.out.lt rfl))
                have HT := hideL (HT.out.keep hk (fun q hq he => NAT.out (by injection hq with hq; injection he with he; exact he.trans hq.symm)))
                have ORK := hideL (own_off ho rfl NAK.out HK.out.lt)
                have HK : HidL (ABox V4 gk 0 (.slice none 0 0) (.slice none 0 0)) := ⟨(hk.block gk HK.out.lt (fun e => NAK.out (by injection e))).trans HK.out⟩
                have HB4 := hideL (HB3.out.trans (hk.below (fun q hq => HA.out.ge hq) HB3.out.size))
                clear hrun hr hk ho HA
                refine hK.out _ _ (HB4.out) (fun hHeld => ?_)
                clear hK K
                try simp only [pA, pB, pC, pD]
                refine wpAnyH_ready (rs := [8]) (by kernel_rfl) (by simp) ?_
                refine AllReadyH.cons (o := ⟨_, _, _, _, _, _⟩) rfl (fun K hK => ?_) AllReadyH.nil
                clear hHeld
                rw [if_pos (by rfl)]
                obtain ⟨ja, jn, jc, V5, hrun, hr, hk, ho⟩ := byte_keep V4 W2.heap.size _ [] HT.out (.slice ba bn bc) x.body ((GB.out.below HO.out.be).below HB4.out) (by have := HBL.out; simp; omega) HB4.out.size
                rw [List.nil_append] at hr
                refine wp_append_runR _ _ _ _ _ rfl rfl _ _ (.slice ja jn jc) V5 rfl rfl hrun ?_
                have HF := hideL hr
                have HR := hideL (HR.out.keep hk (fun q hq he => ORT.out q hq (by injection he with he; exact he.symm)))
                have OFK := hideL (own_off ho rfl NTK.out HK.out.lt)
                have HK : HidL (ABox V5 gk 0 (.slice none 0 0) (.slice none 0 0)) := ⟨(hk.block gk HK.out.lt (fun e => NTK.out (by injection e))).trans HK.out⟩
                have HB5 := hideL (HB4.out.trans (hk.below (fun q hq => HT.out.ge hq) HB4.out.size))
                clear hrun hr hk ho HT
                refine hK.out _ _ (HB5.out) (fun hHeld => ?_)
                clear hK K
                try simp only [pA, pB, pC, pD]
                refine tl 9 rfl hHeld ?_
                try simp only [pA, pB, pC, pD]
                refine wpAnyH_ready (rs := [11]) (by kernel_rfl) (by simp) ?_
                refine AllReadyH.cons (o := ⟨_, _, _, _, _, _⟩) rfl (fun K hK => ?_) AllReadyH.nil
                clear hHeld
                rw [if_pos (by rfl)]
                refine wp_store_row _ _ _ rfl gk #[.int .i64 N, .slice ka kn kc, .slice ja jn jc] rfl rfl _ _ HK.out sizeAn rfl (oneAn _ _ _ _ _ _ _) ?_
                have hks := keep_setRow V5 gk #[.int .i64 N, .slice ka kn kc, .slice ja jn jc]
                have HK := hideL (HK.out.put N (.slice ka kn kc) (.slice ja jn jc))
                have HR := hideL (HR.out.keep hks (fun q hq he => ORK.out q hq he))
                have HF := hideL (HF.out.keep hks (fun q hq he => OFK.out q hq he))
                have HB6 := hideL (HB5.out.trans (hks.below (fun q hq => by have := HGE.out; omega) HB5.out.size))
                clear hks
                refine hK.out _ _ (HB6.out) (fun hHeld => ?_)
                clear hK K
                try simp only [Act.put]
                refine wpAnyH_done (by kernel_rfl) ?_ _
                clear hHeld
                go_wp2_with fail
                go_meet
                case rel => exact ⟨gk, ka, kn, kc, ja, jn, jc, rfl, HGE.out, HK.out, HR.out, HF.out, HB6.out⟩
            · clear hHeld
              rw [if_pos (by rfl)]
              refine wp_alloc_a rfl ?_
              have hz := (Below.refl V0.heap.size V0).alloc (Nat.le_refl _) (anC 0 (.slice none 0 0) (.slice none 0 0))
              have HK0 := hideL (ABox.new V0 0 (.slice none 0 0) (.slice none 0 0))
              have HGE := hideL (show W2.heap.size ≤ V0.heap.size from HB0.out.size)
              have HB1 := hideL (HB0.out.trans (hz.mono HB0.out.size))
              clear hz
              obtain ⟨gk, hg⟩ : ∃ g, g = V0.heap.size := ⟨_, rfl⟩
              rw [← hg] at HK0 HGE ⊢
              clear hg
              obtain ⟨V1, hV⟩ : ∃ x, x = V0.alloc (anC 0 (.slice none 0 0) (.slice none 0 0)) := ⟨_, rfl⟩
              rw [← hV] at HK0 HB1 ⊢
              clear hV
              have HK := HK0
              clear HK0
              refine hK.out _ _ (HB1.out) (fun hHeld => ?_)
              clear hK K
              try simp only [pA, pB, pC, pD]
              refine wpAnyH_ready (rs := [1, 5]) (by kernel_rfl) (by simp) ?_
              refine AllReadyH.cons (o := ⟨_, _, _, _, _, _⟩) rfl (fun K hK => ?_) (AllReadyH.cons (o := ⟨_, _, _, _, _, _⟩) rfl (fun K hK => ?_) AllReadyH.nil)
              · clear hHeld
                go_simp
                have hz := (Below.refl V1.heap.size V1).alloc (Nat.le_refl _) (.cells #[] 83)
                have HA0 : HidL (GRow KH (V1.alloc (.cells #[] 83)) W2.heap.size (.slice (some ⟨V1.heap.size, 0, none⟩) 0 0) []) := ⟨GRow.lit (K := KH) V1 W2.heap.size [] HB1.out.size (by decide)⟩
                have NAK := hideL (show V1.heap.size ≠ gk from (Nat.ne_of_lt HK.out.lt).symm)
                have HK := hideL (HK.out.next hz)
                have HB2 := hideL (HB1.out.trans (hz.mono HB1.out.size))
                clear hz
                obtain ⟨gA, hg⟩ : ∃ g, g = V1.heap.size := ⟨_, rfl⟩
                rw [← hg] at HA0 NAK ⊢
                clear hg
                obtain ⟨V2, hV⟩ : ∃ x, x = V1.alloc (.cells #[] 83) := ⟨_, rfl⟩
                rw [← hV] at HA0 HB2 HK ⊢
                clear hV
                have HA := HA0
                clear HA0
                refine hK.out _ _ (HB2.out) (fun hHeld => ?_)
                clear hK K
                try simp only [pA, pB, pC, pD]
                refine wpAnyH_ready (rs := [4, 5]) (by kernel_rfl) (by simp) ?_
                refine AllReadyH.cons (o := ⟨_, _, _, _, _, _⟩) rfl (fun K hK => ?_) (AllReadyH.cons (o := ⟨_, _, _, _, _, _⟩) rfl (fun K hK => ?_) AllReadyH.nil)
                · clear hHeld
                  rw [if_pos (by rfl)]
                  obtain ⟨ka, kn, kc, V3, hrun, hr, hk, ho⟩ := head_keep V2 W2.heap.size _ [] HA.out (.slice ha hn hc) x.heads ((GH.out.below HO.out.be).below HB2.out) (by have := HHL.out; simp; omega) HB2.out.size
                  rw [List.nil_append] at hr
                  refine wp_append_runR _ _ _ _ _ rfl rfl _ _ (.slice ka kn kc) V3 rfl rfl hrun ?_
                  have HR := hideL hr
                  have ORK := hideL (own_off ho rfl NAK.out HK.out.lt)
                  have HK : HidL (ABox V3 gk 0 (.slice none 0 0) (.slice none 0 0)) := ⟨(hk.block gk HK.out.lt (fun e => NAK.out (by injection e))).trans HK.out⟩
                  have HB3 := hideL (HB2.out.trans (hk.below (fun q hq => HA.out.ge hq) HB2.out.size))
                  clear hrun hr hk ho HA
                  refine hK.out _ _ (HB3.out) (fun hHeld => ?_)
                  clear hK K
                  try simp only [pA, pB, pC, pD]
                  refine wpAnyH_ready (rs := [5]) (by kernel_rfl) (by simp) ?_
                  refine AllReadyH.cons (o := ⟨_, _, _, _, _, _⟩) rfl (fun K hK => ?_) AllReadyH.nil
                  clear hHeld
                  go_simp
                  have hz := (Below.refl V3.heap.size V3).alloc (Nat.le_refl _) (.cells #[] 5)
                  have HT0 : HidL (GRow KB (V3.alloc (.cells #[] 5)) W2.heap.size (.slice (some ⟨V3.heap.size, 0, none⟩) 0 0) []) := ⟨GRow.lit (K := KB) V3 W2.heap.size [] HB3.out.size (by decide)⟩
                  have ORT := hideL (show ∀ q, (Value.slice ka kn kc).ownBlock = some q → q ≠ V3.heap.size from fun q hq => Nat.ne_of_lt (HR.out.lt hq))
                  have NTK := hideL (show V3.heap.size ≠ gk from (Nat.ne_of_lt HK.out.lt).symm)
                  have HR := hideL (HR.out.below hz)
                  have HK := hideL (HK.out.next hz)
                  have HB4 := hideL (HB3.out.trans (hz.mono HB3.out.size))
                  clear hz
                  obtain ⟨gT, hg⟩ : ∃ g, g = V3.heap.size := ⟨_, rfl⟩
                  rw [← hg] at HT0 ORT NTK ⊢
                  clear hg
                  obtain ⟨V4, hV⟩ : ∃ x, x = V3.alloc (.cells #[] 5) := ⟨_, rfl⟩
                  rw [← hV] at HT0 HB4 HR HK ⊢
                  clear hV
                  have HT := HT0
                  clear HT0
                  refine hK.out _ _ (HB4.out) (fun hHeld => ?_)
                  clear hK K
                  try simp only [pA, pB, pC, pD]
                  refine wpAnyH_ready (rs := [8]) (by kernel_rfl) (by simp) ?_
                  refine AllReadyH.cons (o := ⟨_, _, _, _, _, _⟩) rfl (fun K hK => ?_) AllReadyH.nil
                  clear hHeld
                  rw [if_pos (by rfl)]
                  obtain ⟨ja, jn, jc, V5, hrun, hr, hk, ho⟩ := byte_keep V4 W2.heap.size _ [] HT.out (.slice ba bn bc) x.body ((GB.out.below HO.out.be).below HB4.out) (by have := HBL.out; simp; omega) HB4.out.size
                  rw [List.nil_append] at hr
                  refine wp_append_runR _ _ _ _ _ rfl rfl _ _ (.slice ja jn jc) V5 rfl rfl hrun ?_
                  have HF := hideL hr
                  have HR := hideL (HR.out.keep hk (fun q hq he => ORT.out q hq (by injection he with he; exact he.symm)))
                  have OFK := hideL (own_off ho rfl NTK.out HK.out.lt)
                  have HK : HidL (ABox V5 gk 0 (.slice none 0 0) (.slice none 0 0)) := ⟨(hk.block gk HK.out.lt (fun e => NTK.out (by injection e))).trans HK.out⟩
                  have HB5 := hideL (HB4.out.trans (hk.below (fun q hq => HT.out.ge hq) HB4.out.size))
                  clear hrun hr hk ho HT
                  refine hK.out _ _ (HB5.out) (fun hHeld => ?_)
                  clear hK K
                  try simp only [pA, pB, pC, pD]
                  refine tl 9 rfl hHeld ?_
                  try simp only [pA, pB, pC, pD]
                  refine wpAnyH_ready (rs := [11]) (by kernel_rfl) (by simp) ?_
                  refine AllReadyH.cons (o := ⟨_, _, _, _, _, _⟩) rfl (fun K hK => ?_) AllReadyH.nil
                  clear hHeld
                  rw [if_pos (by rfl)]
                  refine wp_store_row _ _ _ rfl gk #[.int .i64 N, .slice ka kn kc, .slice ja jn jc] rfl rfl _ _ HK.out sizeAn rfl (oneAn _ _ _ _ _ _ _) ?_
                  have hks := keep_setRow V5 gk #[.int .i64 N, .slice ka kn kc, .slice ja jn jc]
                  have HK := hideL (HK.out.put N (.slice ka kn kc) (.slice ja jn jc))
                  have HR := hideL (HR.out.keep hks (fun q hq he => ORK.out q hq he))
                  have HF := hideL (HF.out.keep hks (fun q hq he => OFK.out q hq he))
                  have HB6 := hideL (HB5.out.trans (hks.below (fun q hq => by have := HGE.out; omega) HB5.out.size))
                  clear hks
                  refine hK.out _ _ (HB6.out) (fun hHeld => ?_)
                  clear hK K
                  try simp only [Act.put]
                  refine wpAnyH_done (by kernel_rfl) ?_ _
                  clear hHeld
                  go_wp2_with fail
                  go_meet
                  case rel => exact ⟨gk, ka, kn, kc, ja, jn, jc, rfl, HGE.out, HK.out, HR.out, HF.out, HB6.out⟩
                · clear hHeld
                  go_simp
                  have hz := (Below.refl V2.heap.size V2).alloc (Nat.le_refl _) (.cells #[] 5)
                  have HT0 : HidL (GRow KB (V2.alloc (.cells #[] 5)) W2.heap.size (.slice (some ⟨V2.heap.size, 0, none⟩) 0 0) []) := ⟨GRow.lit (K := KB) V2 W2.heap.size [] HB2.out.size (by decide)⟩
                  have NAT := hideL (show gA ≠ V2.heap.size from Nat.ne_of_lt (HA.out.lt rfl))
                  have NTK := hideL (show V2.heap.size ≠ gk from (Nat.ne_of_lt HK.out.lt).symm)
                  have HA := hideL (HA.out.below hz)
                  have HK := hideL (HK.out.next hz)
                  have HB3 := hideL (HB2.out.trans (hz.mono HB2.out.size))
                  clear hz
                  obtain ⟨gT, hg⟩ : ∃ g, g = V2.heap.size := ⟨_, rfl⟩
                  rw [← hg] at HT0 NAT NTK ⊢
                  clear hg
                  obtain ⟨V3, hV⟩ : ∃ x, x = V2.alloc (.cells #[] 5) := ⟨_, rfl⟩
                  rw [← hV] at HT0 HB3 HA HK ⊢
                  clear hV
                  have HT := HT0
                  clear HT0
                  refine hK.out _ _ (HB3.out) (fun hHeld => ?_)
                  clear hK K
                  try simp only [pA, pB, pC, pD]
                  refine wpAnyH_ready (rs := [4]) (by kernel_rfl) (by simp) ?_
                  refine AllReadyH.cons (o := ⟨_, _, _, _, _, _⟩) rfl (fun K hK => ?_) AllReadyH.nil
                  clear hHeld
                  rw [if_pos (by rfl)]
                  obtain ⟨ka, kn, kc, V4, hrun, hr, hk, ho⟩ := head_keep V3 W2.heap.size _ [] HA.out (.slice ha hn hc) x.heads ((GH.out.below HO.out.be).below HB3.out) (by have := HHL.out; simp; omega) HB3.out.size
                  rw [List.nil_append] at hr
                  refine wp_append_runR _ _ _ _ _ rfl rfl _ _ (.slice ka kn kc) V4 rfl rfl hrun ?_
                  have HR := hideL hr
                  have ORT := hideL (own_off ho rfl NAT.out (HT.out.lt rfl))
                  have HT := hideL (HT.out.keep hk (fun q hq he => NAT.out (by injection hq with hq; injection he with he; exact he.trans hq.symm)))
                  have ORK := hideL (own_off ho rfl NAK.out HK.out.lt)
                  have HK : HidL (ABox V4 gk 0 (.slice none 0 0) (.slice none 0 0)) := ⟨(hk.block gk HK.out.lt (fun e => NAK.out (by injection e))).trans HK.out⟩
                  have HB4 := hideL (HB3.out.trans (hk.below (fun q hq => HA.out.ge hq) HB3.out.size))
                  clear hrun hr hk ho HA
                  refine hK.out _ _ (HB4.out) (fun hHeld => ?_)
                  clear hK K
                  try simp only [pA, pB, pC, pD]
                  refine wpAnyH_ready (rs := [8]) (by kernel_rfl) (by simp) ?_
                  refine AllReadyH.cons (o := ⟨_, _, _, _, _, _⟩) rfl (fun K hK => ?_) AllReadyH.nil
                  clear hHeld
                  rw [if_pos (by rfl)]
                  obtain ⟨ja, jn, jc, V5, hrun, hr, hk, ho⟩ := byte_keep V4 W2.heap.size _ [] HT.out (.slice ba bn bc) x.body ((GB.out.below HO.out.be).below HB4.out) (by have := HBL.out; simp; omega) HB4.out.size
                  rw [List.nil_append] at hr
                  refine wp_append_runR _ _ _ _ _ rfl rfl _ _ (.slice ja jn jc) V5 rfl rfl hrun ?_
                  have HF := hideL hr
                  have HR := hideL (HR.out.keep hk (fun q hq he => ORT.out q hq (by injection he with he; exact he.symm)))
                  have OFK := hideL (own_off ho rfl NTK.out HK.out.lt)
                  have HK : HidL (ABox V5 gk 0 (.slice none 0 0) (.slice none 0 0)) := ⟨(hk.block gk HK.out.lt (fun e => NTK.out (by injection e))).trans HK.out⟩
                  have HB5 := hideL (HB4.out.trans (hk.below (fun q hq => HT.out.ge hq) HB4.out.size))
                  clear hrun hr hk ho HT
                  refine hK.out _ _ (HB5.out) (fun hHeld => ?_)
                  clear hK K
                  try simp only [pA, pB, pC, pD]
                  refine tl 9 rfl hHeld ?_
                  try simp only [pA, pB, pC, pD]
                  refine wpAnyH_ready (rs := [11]) (by kernel_rfl) (by simp) ?_
                  refine AllReadyH.cons (o := ⟨_, _, _, _, _, _⟩) rfl (fun K hK => ?_) AllReadyH.nil
                  clear hHeld
                  rw [if_pos (by rfl)]
                  refine wp_store_row _ _ _ rfl gk #[.int .i64 N, .slice ka kn kc, .slice ja jn jc] rfl rfl _ _ HK.out sizeAn rfl (oneAn _ _ _ _ _ _ _) ?_
                  have hks := keep_setRow V5 gk #[.int .i64 N, .slice ka kn kc, .slice ja jn jc]
                  have HK := hideL (HK.out.put N (.slice ka kn kc) (.slice ja jn jc))
                  have HR := hideL (HR.out.keep hks (fun q hq he => ORK.out q hq he))
                  have HF := hideL (HF.out.keep hks (fun q hq he => OFK.out q hq he))
                  have HB6 := hideL (HB5.out.trans (hks.below (fun q hq => by have := HGE.out; omega) HB5.out.size))
                  clear hks
                  refine hK.out _ _ (HB6.out) (fun hHeld => ?_)
                  clear hK K
                  try simp only [Act.put]
                  refine wpAnyH_done (by kernel_rfl) ?_ _
                  clear hHeld
                  go_wp2_with fail
                  go_meet
                  case rel => exact ⟨gk, ka, kn, kc, ja, jn, jc, rfl, HGE.out, HK.out, HR.out, HF.out, HB6.out⟩
              · clear hHeld
                go_simp
                have hz := (Below.refl V1.heap.size V1).alloc (Nat.le_refl _) (.cells #[] 5)
                have HT0 : HidL (GRow KB (V1.alloc (.cells #[] 5)) W2.heap.size (.slice (some ⟨V1.heap.size, 0, none⟩) 0 0) []) := ⟨GRow.lit (K := KB) V1 W2.heap.size [] HB1.out.size (by decide)⟩
                have NTK := hideL (show V1.heap.size ≠ gk from (Nat.ne_of_lt HK.out.lt).symm)
                have HK := hideL (HK.out.next hz)
                have HB2 := hideL (HB1.out.trans (hz.mono HB1.out.size))
                clear hz
                obtain ⟨gT, hg⟩ : ∃ g, g = V1.heap.size := ⟨_, rfl⟩
                rw [← hg] at HT0 NTK ⊢
                clear hg
                obtain ⟨V2, hV⟩ : ∃ x, x = V1.alloc (.cells #[] 5) := ⟨_, rfl⟩
                rw [← hV] at HT0 HB2 HK ⊢
                clear hV
                have HT := HT0
                clear HT0
                refine hK.out _ _ (HB2.out) (fun hHeld => ?_)
                clear hK K
                try simp only [pA, pB, pC, pD]
                refine wpAnyH_ready (rs := [1]) (by kernel_rfl) (by simp) ?_
                refine AllReadyH.cons (o := ⟨_, _, _, _, _, _⟩) rfl (fun K hK => ?_) AllReadyH.nil
                clear hHeld
                go_simp
                have hz := (Below.refl V2.heap.size V2).alloc (Nat.le_refl _) (.cells #[] 83)
                have HA0 : HidL (GRow KH (V2.alloc (.cells #[] 83)) W2.heap.size (.slice (some ⟨V2.heap.size, 0, none⟩) 0 0) []) := ⟨GRow.lit (K := KH) V2 W2.heap.size [] HB2.out.size (by decide)⟩
                have NAT := hideL (show V2.heap.size ≠ gT from (Nat.ne_of_lt (HT.out.lt rfl)).symm)
                have NAK := hideL (show V2.heap.size ≠ gk from (Nat.ne_of_lt HK.out.lt).symm)
                have HT := hideL (HT.out.below hz)
                have HK := hideL (HK.out.next hz)
                have HB3 := hideL (HB2.out.trans (hz.mono HB2.out.size))
                clear hz
                obtain ⟨gA, hg⟩ : ∃ g, g = V2.heap.size := ⟨_, rfl⟩
                rw [← hg] at HA0 NAT NAK ⊢
                clear hg
                obtain ⟨V3, hV⟩ : ∃ x, x = V2.alloc (.cells #[] 83) := ⟨_, rfl⟩
                rw [← hV] at HA0 HB3 HT HK ⊢
                clear hV
                have HA := HA0
                clear HA0
                refine hK.out _ _ (HB3.out) (fun hHeld => ?_)
                clear hK K
                try simp only [pA, pB, pC, pD]
                refine wpAnyH_ready (rs := [4]) (by kernel_rfl) (by simp) ?_
                refine AllReadyH.cons (o := ⟨_, _, _, _, _, _⟩) rfl (fun K hK => ?_) AllReadyH.nil
                clear hHeld
                rw [if_pos (by rfl)]
                obtain ⟨ka, kn, kc, V4, hrun, hr, hk, ho⟩ := head_keep V3 W2.heap.size _ [] HA.out (.slice ha hn hc) x.heads ((GH.out.below HO.out.be).below HB3.out) (by have := HHL.out; simp; omega) HB3.out.size
                rw [List.nil_append] at hr
                refine wp_append_runR _ _ _ _ _ rfl rfl _ _ (.slice ka kn kc) V4 rfl rfl hrun ?_
                have HR := hideL hr
                have ORT := hideL (own_off ho rfl NAT.out (HT.out.lt rfl))
                have HT := hideL (HT.out.keep hk (fun q hq he => NAT.out (by injection hq with hq; injection he with he; exact he.trans hq.symm)))
                have ORK := hideL (own_off ho rfl NAK.out HK.out.lt)
                have HK : HidL (ABox V4 gk 0 (.slice none 0 0) (.slice none 0 0)) := ⟨(hk.block gk HK.out.lt (fun e => NAK.out (by injection e))).trans HK.out⟩
                have HB4 := hideL (HB3.out.trans (hk.below (fun q hq => HA.out.ge hq) HB3.out.size))
                clear hrun hr hk ho HA
                refine hK.out _ _ (HB4.out) (fun hHeld => ?_)
                clear hK K
                try simp only [pA, pB, pC, pD]
                refine wpAnyH_ready (rs := [8]) (by kernel_rfl) (by simp) ?_
                refine AllReadyH.cons (o := ⟨_, _, _, _, _, _⟩) rfl (fun K hK => ?_) AllReadyH.nil
                clear hHeld
                rw [if_pos (by rfl)]
                obtain ⟨ja, jn, jc, V5, hrun, hr, hk, ho⟩ := byte_keep V4 W2.heap.size _ [] HT.out (.slice ba bn bc) x.body ((GB.out.below HO.out.be).below HB4.out) (by have := HBL.out; simp; omega) HB4.out.size
                rw [List.nil_append] at hr
                refine wp_append_runR _ _ _ _ _ rfl rfl _ _ (.slice ja jn jc) V5 rfl rfl hrun ?_
                have HF := hideL hr
                have HR := hideL (HR.out.keep hk (fun q hq he => ORT.out q hq (by injection he with he; exact he.symm)))
                have OFK := hideL (own_off ho rfl NTK.out HK.out.lt)
                have HK : HidL (ABox V5 gk 0 (.slice none 0 0) (.slice none 0 0)) := ⟨(hk.block gk HK.out.lt (fun e => NTK.out (by injection e))).trans HK.out⟩
                have HB5 := hideL (HB4.out.trans (hk.below (fun q hq => HT.out.ge hq) HB4.out.size))
                clear hrun hr hk ho HT
                refine hK.out _ _ (HB5.out) (fun hHeld => ?_)
                clear hK K
                try simp only [pA, pB, pC, pD]
                refine tl 9 rfl hHeld ?_
                try simp only [pA, pB, pC, pD]
                refine wpAnyH_ready (rs := [11]) (by kernel_rfl) (by simp) ?_
                refine AllReadyH.cons (o := ⟨_, _, _, _, _, _⟩) rfl (fun K hK => ?_) AllReadyH.nil
                clear hHeld
                rw [if_pos (by rfl)]
                refine wp_store_row _ _ _ rfl gk #[.int .i64 N, .slice ka kn kc, .slice ja jn jc] rfl rfl _ _ HK.out sizeAn rfl (oneAn _ _ _ _ _ _ _) ?_
                have hks := keep_setRow V5 gk #[.int .i64 N, .slice ka kn kc, .slice ja jn jc]
                have HK := hideL (HK.out.put N (.slice ka kn kc) (.slice ja jn jc))
                have HR := hideL (HR.out.keep hks (fun q hq he => ORK.out q hq he))
                have HF := hideL (HF.out.keep hks (fun q hq he => OFK.out q hq he))
                have HB6 := hideL (HB5.out.trans (hks.below (fun q hq => by have := HGE.out; omega) HB5.out.size))
                clear hks
                refine hK.out _ _ (HB6.out) (fun hHeld => ?_)
                clear hK K
                try simp only [Act.put]
                refine wpAnyH_done (by kernel_rfl) ?_ _
                clear hHeld
                go_wp2_with fail
                go_meet
                case rel => exact ⟨gk, ka, kn, kc, ja, jn, jc, rfl, HGE.out, HK.out, HR.out, HF.out, HB6.out⟩
          case rest =>
            obtain ⟨gk, ka, kn, kc, ja, jn, jc, rfl, hge, hkk, hrr, hff, hbb⟩ := hcut
            obtain ⟨W4, rfl⟩ : ∃ W, W = wc := ⟨_, rfl⟩
            have HO4 := hideL (HO.out.next hbb)
            have HK4 := hideL hkk
            have LM := rmayA_any N ka kn kc ja jn jc ⟨N, x.heads, x.body⟩ W4 ⟨rfl, hrr.gAt, hff.gAt⟩ HFI.out HHL.out
            have hof := HOF.out
            cases hM : mayAB ⟨(N : Int), x.heads, x.body⟩ with
            | false =>
              rw [hM] at hof LM
              have LM := hideL LM
              have HNO := hideL (show ofAP x = none from hof)
              have k0 := HK4.out.c0
              have k1 := HK4.out.c1
              have k2 := HK4.out.c2
              clear hge hkk hrr hff hbb hM hof HB0 HO
              go_wp2_with (go_at_call 26; (with_reducible refine LM.out.mono ?_); rintro e w5 ⟨rfl, hB⟩; have HO5 := hideL (HO4.out.next hB); have q0 := HO5.out.res.c0; have q1 := HO5.out.res.c1; have q2 := HO5.out.res.c2; have z0 := HO5.out.res.fz 0; have z1 := HO5.out.res.fz 1; have z2 := HO5.out.res.fz 2; clear hB)
              exact bodyPost_ret (v := .tuple #[.agg #[.int .i64 0, .slice none 0 0, .slice none 0 0], .bool false]) (by
                have hy := HO5.out.res.st 0 (.slice none 0 0) (.slice none 0 0)
                have r0 := hy.c0
                have r1 := hy.c1
                have r2 := hy.c2
                simp [results, Tryz.results34, go_sem, r0, r1, r2]) rfl (AROfPost.no HNO.out (below_st3 HO5.out.be (Nat.le_succ _)))
            | true =>
              rw [hM] at hof LM
              have LM := hideL LM
              have HNO := hideL (show ofAP x = some ⟨N, x.heads, x.body⟩ from hof)
              have k0 := HK4.out.c0
              have k1 := HK4.out.c1
              have k2 := HK4.out.c2
              have HR4 := hideL hrr
              have HF4 := hideL hff
              clear hge hkk hrr hff hbb hM hof HB0 HO
              go_wp2_with (go_at_call 26; (with_reducible refine LM.out.mono ?_); rintro e w5 ⟨rfl, hB⟩; have HO5 := hideL (HO4.out.next hB); have HK5 := hideL (HK4.out.next hB); have HR5 := hideL (HR4.out.below hB); have HF5 := hideL (HF4.out.below hB); clear k0 k1 k2; have k0 := HK5.out.c0; have k1 := HK5.out.c1; have k2 := HK5.out.c2; have q0 := HO5.out.res.c0; have q1 := HO5.out.res.c1; have q2 := HO5.out.res.c2; have z0 := HO5.out.res.fz 0; have z1 := HO5.out.res.fz 1; have z2 := HO5.out.res.fz 2; clear hB)
              have hy := HO5.out.res.st N (.slice ka kn kc) (.slice ja jn jc)
              have r0 := hy.c0
              have r1 := hy.c1
              have r2 := hy.c2
              have kk := keep_st3 w5 (w0.heap.size + 1) (.int .i64 N) (.slice ka kn kc) (.slice ja jn jc)
              have hrm := HRM.out
              have f1 := HR5.out.gAt.keep kk (fun q hq e => by have := HR5.out.ge hq; have e : q = w0.heap.size + 1 := e; omega)
              have f2 := HF5.out.gAt.keep kk (fun q hq e => by have := HF5.out.ge hq; have e : q = w0.heap.size + 1 := e; omega)
              exact bodyPost_ret (v := .tuple #[.agg #[.int .i64 N, .slice ka kn kc, .slice ja jn jc], .bool true]) (by simp [results, Tryz.results34, go_sem, r0, r1, r2]) rfl (AROfPost.yes HNO.out ⟨rfl, f1, f2⟩ ⟨(fun q hq => by have := HR5.out.ge hq; omega), (fun q hq => by have := HF5.out.ge hq; omega)⟩ (below_st3 HO5.out.be (Nat.le_succ _)))

end Go.Proofs.YtafmgoekgijfgaaGreatDoor
