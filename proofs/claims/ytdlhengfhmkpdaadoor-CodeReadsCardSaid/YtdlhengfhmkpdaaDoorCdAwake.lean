/- The law's own function awake of layer 3: it answers true. -/
import Derived.Test.YtdlhengfhmkpdaaDoorCdTop
import Derived.Test.YtdlhengfhmkpdaaDoorFrame
namespace Go.Proofs.YtdlhengfhmkpdaaDoor
open Go.RowKit

set_option maxRecDepth 100000 in
set_option maxHeartbeats 4000000 in
theorem awake_any (w : World) (ht : Tab w) : Calls Tryd.prog 12 #[] w (LawPost w) := by
  have HT := hide ht
  have hw2 := ht.two
  have HC0 : Hid (Below w.heap.size w w) := hide (Below.refl _ _)
  clear ht
  go_enter Tryd.func12, Tryd.ntmps12
  go_wp2_with fail
  refine (newWriter_iv w).mono ?_
  rintro e W1 ⟨gw, rfl, hB, hN⟩
  have hs1 := hB.size
  have Hw1 := hide hN
  have HC1 := hide ((Keep.of_below hB : Keep (fun _ => False) w W1).through HC0.out (fun k h => h.elim) (by omega))
  clear HC0
  clear hB hN
  go_wp2_with fail
  refine (u8_any 7 W1 _ (iv _ W1.heap.size) _ _ Hw1.out (by simp)).mono ?_
  intro e W2 hp
  obtain ⟨rfl, hs2, hK, hN⟩ := hp.iv rfl (by omega)
  clear hp
  have Hw2 := hide hN
  clear hN
  have HC2 := hide (hK.through HC1.out (fun k h => by simp only [iv] at h; omega) (by omega))
  clear Hw1 HC1
  clear hK
  go_wp2_with fail
  refine (u32_any 258 W2 _ (iv _ W2.heap.size) _ _ (HT.out.below HC2.out HT.out.two) Hw2.out (by simp)).mono ?_
  intro e W3 hp
  obtain ⟨rfl, hs3, hK, hN⟩ := hp.iv rfl (by omega)
  clear hp
  have Hw3 := hide hN
  clear hN
  have HC3 := hide (hK.through HC2.out (fun k h => by simp only [iv] at h; omega) (by omega))
  clear Hw2 HC2
  clear hK
  go_wp2_with fail
  refine (uint_any 300 (by omega) W3 _ (iv _ W3.heap.size) _ _ (HT.out.below HC3.out HT.out.two) Hw3.out (by simp [length_u32T, u32S])).mono ?_
  intro e W4 hp
  obtain ⟨rfl, hs4, hK, hN⟩ := hp.iv rfl (by omega)
  clear hp
  have Hw4 := hide hN
  clear hN
  have HC4 := hide (hK.through HC3.out (fun k h => by simp only [iv] at h; omega) (by omega))
  clear Hw3 HC3
  clear hK
  rw [show ((([] ++ [7]) ++ u32S 258) ++ uintS 300) = ([7, 2, 1, 0, 0, 172, 2] : List Int) from (by decide +kernel)] at Hw4
  go_wp2_with fail
  refine (text_any ⟨#[97, 98]⟩ W4 _ (iv _ W4.heap.size) _ _ (HT.out.below HC4.out HT.out.two) (by omega) Hw4.out (by decide) (by decide)).mono ?_
  intro e W5 hp
  obtain ⟨rfl, hs5, hK, hN⟩ := hp.iv rfl (by omega)
  clear hp
  have Hw5 := hide hN
  clear hN
  have HC5 := hide (hK.through HC4.out (fun k h => by simp only [iv] at h; omega) (by omega))
  clear Hw4 HC4
  clear hK
  rw [show (([7, 2, 1, 0, 0, 172, 2] : List Int) ++ textS ⟨#[97, 98]⟩) = ([7, 2, 1, 0, 0, 172, 2, 2, 97, 98] : List Int) from (by decide +kernel)] at Hw5
  go_wp2_with fail
  refine (raw_lit [5, 6] W5 _ _ _ Hw5.out (by simp)).mono ?_
  intro e W6 hp
  obtain ⟨rfl, hs6, hK, hN⟩ := hp.iv rfl (by omega)
  clear hp
  have Hw6 := hide hN
  clear hN
  have HC6 := hide (hK.through HC5.out (fun k h => by simp only [iv] at h; omega) (by omega))
  clear Hw5 HC5
  clear hK
  rw [show (([7, 2, 1, 0, 0, 172, 2, 2, 97, 98] : List Int) ++ [5, 6]) = ([7, 2, 1, 0, 0, 172, 2, 2, 97, 98, 5, 6] : List Int) from (by decide +kernel)] at Hw6
  go_wp2_with fail
  refine (newWriter_iv W6).mono ?_
  rintro e W7 ⟨gv, rfl, hB, hN⟩
  have hs7 := hB.size
  have Hv7 := hide hN
  have Hw7 := hide (Hw6.out.keep (Keep.of_below hB : Keep (fun _ => False) W6 W7) (fun _ _ => id))
  have HC7 := hide ((Keep.of_below hB : Keep (fun _ => False) W6 W7).through HC6.out (fun k h => h.elim) (by omega))
  clear Hw6 HC6
  clear hB hN
  go_wp2_with fail
  refine (put_lit [0, 127, 128] W7 _ _ _ (HT.out.below HC7.out HT.out.two) (by omega) Hv7.out (by decide) (by simp)).mono ?_
  intro e W8 hp
  obtain ⟨rfl, hs8, hK, hN⟩ := hp.iv rfl (by omega)
  clear hp
  have Hv8 := hide hN
  clear hN
  have Hw8 := hide (Hw7.out.keep hK (fun k h1 h2 => by simp only [iv] at h1 h2; omega))
  have HC8 := hide (hK.through HC7.out (fun k h => by simp only [iv] at h; omega) (by omega))
  clear Hw7 Hv7 HC7
  clear hK
  rw [show ([] ++ putS [0, 127, 128]) = ([0, 127, 128, 1] : List Int) from (by decide +kernel)] at Hv8
  go_wp2_with fail
  refine (newReader_lit [128, 1] W8 (by simp)).mono ?_
  rintro e W9 ⟨ga, rfl, hB, hN⟩
  have hs9 := hB.size
  have Ha9 := hide hN
  have Hw9 := hide (Hw8.out.keep (Keep.of_below hB : Keep (fun _ => False) W8 W9) (fun _ _ => id))
  have Hv9 := hide (Hv8.out.keep (Keep.of_below hB : Keep (fun _ => False) W8 W9) (fun _ _ => id))
  have HC9 := hide ((Keep.of_below hB : Keep (fun _ => False) W8 W9).through HC8.out (fun k h => h.elim) (by omega))
  clear Hw8 Hv8 HC8
  clear hB hN
  go_wp2_with fail
  refine (newReader_lit [128, 0] W9 (by simp)).mono ?_
  rintro e W10 ⟨gb, rfl, hB, hN⟩
  have hs10 := hB.size
  have Hb10 := hide hN
  have Hw10 := hide (Hw9.out.keep (Keep.of_below hB : Keep (fun _ => False) W9 W10) (fun _ _ => id))
  have Hv10 := hide (Hv9.out.keep (Keep.of_below hB : Keep (fun _ => False) W9 W10) (fun _ _ => id))
  have Ha10 := hide (Ha9.out.keep (Keep.of_below hB : Keep (fun _ => False) W9 W10) (fun _ _ => id))
  have HC10 := hide ((Keep.of_below hB : Keep (fun _ => False) W9 W10).through HC9.out (fun k h => h.elim) (by omega))
  clear Hw9 Hv9 Ha9 HC9
  clear hB hN
  go_wp2_with fail
  refine (newReader_lit [2, 97, 98] W10 (by simp)).mono ?_
  rintro e W11 ⟨gc, rfl, hB, hN⟩
  have hs11 := hB.size
  have Hc11 := hide hN
  have Hw11 := hide (Hw10.out.keep (Keep.of_below hB : Keep (fun _ => False) W10 W11) (fun _ _ => id))
  have Hv11 := hide (Hv10.out.keep (Keep.of_below hB : Keep (fun _ => False) W10 W11) (fun _ _ => id))
  have Ha11 := hide (Ha10.out.keep (Keep.of_below hB : Keep (fun _ => False) W10 W11) (fun _ _ => id))
  have Hb11 := hide (Hb10.out.keep (Keep.of_below hB : Keep (fun _ => False) W10 W11) (fun _ _ => id))
  have HC11 := hide ((Keep.of_below hB : Keep (fun _ => False) W10 W11).through HC10.out (fun k h => h.elim) (by omega))
  clear Hw10 Hv10 Ha10 Hb10 HC10
  clear hB hN
  go_wp2_with fail
  refine (ru_go W11 _ _ _ _ Ha11.out (HT.out.below HC11.out HT.out.two) (by decide)).mono ?_
  intro e W12 hp
  obtain ⟨hK, hs12, f, rfl, hf, hN⟩ := hp.some (rest := []) (by decide +kernel)
  obtain rfl : f = .int .u64 128 := hf.trans (congrArg (Value.int .u64) (by decide +kernel))
  clear hf
  clear hp
  have Ha12 := hide hN
  clear hN
  have Hw12 := hide (Hw11.out.keep hK (fun k h1 h2 => by simp only [iv] at h1 h2; omega))
  have Hv12 := hide (Hv11.out.keep hK (fun k h1 h2 => by simp only [iv] at h1 h2; omega))
  have Hb12 := hide (Hb11.out.keep hK (fun k h1 h2 => by simp only [iv] at h1 h2; omega))
  have Hc12 := hide (Hc11.out.keep hK (fun k h1 h2 => by simp only [iv] at h1 h2; omega))
  have HC12 := hide (hK.through HC11.out (fun k h => by simp only [iv] at h; omega) (by omega))
  clear Hw11 Hv11 Ha11 Hb11 Hc11 HC11
  clear hK
  go_wp2_with fail
  refine (ru_go W12 _ _ _ _ Hb12.out (HT.out.below HC12.out HT.out.two) (by decide)).mono ?_
  intro e W13 hp
  obtain ⟨hK, hs13, rfl, hN⟩ := hp.none (by decide +kernel)
  clear hp
  have Hb13 := hide hN
  clear hN
  have Hw13 := hide (Hw12.out.keep hK (fun k h1 h2 => by simp only [iv] at h1 h2; omega))
  have Hv13 := hide (Hv12.out.keep hK (fun k h1 h2 => by simp only [iv] at h1 h2; omega))
  have Ha13 := hide (Ha12.out.keep hK (fun k h1 h2 => by simp only [iv] at h1 h2; omega))
  have Hc13 := hide (Hc12.out.keep hK (fun k h1 h2 => by simp only [iv] at h1 h2; omega))
  have HC13 := hide (hK.through HC12.out (fun k h => by simp only [iv] at h; omega) (by omega))
  clear Hw12 Hv12 Ha12 Hb12 Hc12 HC12
  clear hK
  go_wp2_with fail
  refine (rt_go 1 W13 _ _ _ _ Hc13.out (by decide) (HT.out.below HC13.out HT.out.two) (by decide) (by simp)).mono ?_
  intro e W14 hp
  obtain ⟨hK, hs14, rfl, hN⟩ := hp.none (by decide +kernel)
  clear hp
  have Hc14 := hide hN
  clear hN
  have Hw14 := hide (Hw13.out.keep hK (fun k h1 h2 => by simp only [iv] at h1 h2; omega))
  have Hv14 := hide (Hv13.out.keep hK (fun k h1 h2 => by simp only [iv] at h1 h2; omega))
  have Ha14 := hide (Ha13.out.keep hK (fun k h1 h2 => by simp only [iv] at h1 h2; omega))
  have Hb14 := hide (Hb13.out.keep hK (fun k h1 h2 => by simp only [iv] at h1 h2; omega))
  have HC14 := hide (hK.through HC13.out (fun k h => by simp only [iv] at h; omega) (by omega))
  clear Hw13 Hv13 Ha13 Hb13 Hc13 HC13
  clear hK
  go_wp2_with fail
  refine (newReader_lit [7, 8] W14 (by simp)).mono ?_
  rintro e W15 ⟨gd, rfl, hB, hN⟩
  have hs15 := hB.size
  have Hd15 := hide hN
  have Hw15 := hide (Hw14.out.keep (Keep.of_below hB : Keep (fun _ => False) W14 W15) (fun _ _ => id))
  have Hv15 := hide (Hv14.out.keep (Keep.of_below hB : Keep (fun _ => False) W14 W15) (fun _ _ => id))
  have Ha15 := hide (Ha14.out.keep (Keep.of_below hB : Keep (fun _ => False) W14 W15) (fun _ _ => id))
  have Hb15 := hide (Hb14.out.keep (Keep.of_below hB : Keep (fun _ => False) W14 W15) (fun _ _ => id))
  have Hc15 := hide (Hc14.out.keep (Keep.of_below hB : Keep (fun _ => False) W14 W15) (fun _ _ => id))
  have HC15 := hide ((Keep.of_below hB : Keep (fun _ => False) W14 W15).through HC14.out (fun k h => h.elim) (by omega))
  clear Hw14 Hv14 Ha14 Hb14 Hc14 HC14
  clear hB hN
  go_wp2_with fail
  refine (bytes_any W15 _ _ _ _ Hw15.out (by simp)).mono ?_
  rintro e W16 ⟨v', rfl, hr, hB⟩
  have hs16 := hB.size
  obtain ⟨ao, cap, hvv⟩ := hr.slAt.len
  rw [show (([7, 2, 1, 0, 0, 172, 2, 2, 97, 98, 5, 6] : List Int)).length = 12 from rfl] at hvv
  subst hvv
  have hcv := hr.str
  rw [show strOfNums ([7, 2, 1, 0, 0, 172, 2, 2, 97, 98, 5, 6] : List Int) = ⟨#[7, 2, 1, 0, 0, 172, 2, 2, 97, 98, 5, 6]⟩ from (by decide +kernel)] at hcv
  clear hr
  have Hw16 := hide (Hw15.out.keep (Keep.of_below hB : Keep (fun _ => False) W15 W16) (fun _ _ => id))
  have Hv16 := hide (Hv15.out.keep (Keep.of_below hB : Keep (fun _ => False) W15 W16) (fun _ _ => id))
  have Ha16 := hide (Ha15.out.keep (Keep.of_below hB : Keep (fun _ => False) W15 W16) (fun _ _ => id))
  have Hb16 := hide (Hb15.out.keep (Keep.of_below hB : Keep (fun _ => False) W15 W16) (fun _ _ => id))
  have Hc16 := hide (Hc15.out.keep (Keep.of_below hB : Keep (fun _ => False) W15 W16) (fun _ _ => id))
  have Hd16 := hide (Hd15.out.keep (Keep.of_below hB : Keep (fun _ => False) W15 W16) (fun _ _ => id))
  have HC16 := hide ((Keep.of_below hB : Keep (fun _ => False) W15 W16).through HC15.out (fun k h => h.elim) (by omega))
  clear Hw15 Hv15 Ha15 Hb15 Hc15 Hd15 HC15
  clear hB
  go_wp2_with fail
  refine (bytes_any W16 _ _ _ _ Hv16.out (by simp)).mono ?_
  rintro e W17 ⟨v', rfl, hr, hB⟩
  have hs17 := hB.size
  obtain ⟨ao, cap, hvv⟩ := hr.slAt.len
  rw [show (([0, 127, 128, 1] : List Int)).length = 4 from rfl] at hvv
  subst hvv
  have hcv := hr.str
  rw [show strOfNums ([0, 127, 128, 1] : List Int) = ⟨#[0, 127, 128, 1]⟩ from (by decide +kernel)] at hcv
  clear hr
  have Hw17 := hide (Hw16.out.keep (Keep.of_below hB : Keep (fun _ => False) W16 W17) (fun _ _ => id))
  have Hv17 := hide (Hv16.out.keep (Keep.of_below hB : Keep (fun _ => False) W16 W17) (fun _ _ => id))
  have Ha17 := hide (Ha16.out.keep (Keep.of_below hB : Keep (fun _ => False) W16 W17) (fun _ _ => id))
  have Hb17 := hide (Hb16.out.keep (Keep.of_below hB : Keep (fun _ => False) W16 W17) (fun _ _ => id))
  have Hc17 := hide (Hc16.out.keep (Keep.of_below hB : Keep (fun _ => False) W16 W17) (fun _ _ => id))
  have Hd17 := hide (Hd16.out.keep (Keep.of_below hB : Keep (fun _ => False) W16 W17) (fun _ _ => id))
  have HC17 := hide ((Keep.of_below hB : Keep (fun _ => False) W16 W17).through HC16.out (fun k h => h.elim) (by omega))
  clear Hw16 Hv16 Ha16 Hb16 Hc16 Hd16 HC16
  clear hB
  go_wp2_with fail
  refine (endr_any W17 _ _ _ _ _ Ha17.out).mono ?_
  rintro e W18 ⟨rfl, hK, hN⟩
  have hs18 := hK.size
  simp only [List.isEmpty_nil, List.isEmpty_cons, Bool.not_true, Bool.not_false, Bool.or_false, Bool.or_true, Bool.false_or, Bool.true_or] at hN ⊢
  rw [show errOf false = 0 from rfl]
  have Ha18 := hide hN
  clear hN
  have Hw18 := hide (Hw17.out.keep hK (fun k h1 h2 => by simp only [iv] at h1 h2; omega))
  have Hv18 := hide (Hv17.out.keep hK (fun k h1 h2 => by simp only [iv] at h1 h2; omega))
  have Hb18 := hide (Hb17.out.keep hK (fun k h1 h2 => by simp only [iv] at h1 h2; omega))
  have Hc18 := hide (Hc17.out.keep hK (fun k h1 h2 => by simp only [iv] at h1 h2; omega))
  have Hd18 := hide (Hd17.out.keep hK (fun k h1 h2 => by simp only [iv] at h1 h2; omega))
  have HC18 := hide (hK.through HC17.out (fun k h => by simp only [iv] at h; omega) (by omega))
  clear Hw17 Hv17 Ha17 Hb17 Hc17 Hd17 HC17
  clear hK
  go_wp2_with fail
  refine (err_any W18 _ _ _ _ _ Hb18.out).mono ?_
  rintro e W18 ⟨rfl, rfl⟩
  rw [show errOf true = 2 from rfl]
  go_wp2_with fail
  refine (r8_stop W18 _ _ _ _ Hc18.out).mono ?_
  rintro e W19 ⟨rfl, hB⟩
  have hs19 := hB.size
  have Hw19 := hide (Hw18.out.keep (Keep.of_below hB : Keep (fun _ => False) W18 W19) (fun _ _ => id))
  have Hv19 := hide (Hv18.out.keep (Keep.of_below hB : Keep (fun _ => False) W18 W19) (fun _ _ => id))
  have Ha19 := hide (Ha18.out.keep (Keep.of_below hB : Keep (fun _ => False) W18 W19) (fun _ _ => id))
  have Hb19 := hide (Hb18.out.keep (Keep.of_below hB : Keep (fun _ => False) W18 W19) (fun _ _ => id))
  have Hc19 := hide (Hc18.out.keep (Keep.of_below hB : Keep (fun _ => False) W18 W19) (fun _ _ => id))
  have Hd19 := hide (Hd18.out.keep (Keep.of_below hB : Keep (fun _ => False) W18 W19) (fun _ _ => id))
  have HC19 := hide ((Keep.of_below hB : Keep (fun _ => False) W18 W19).through HC18.out (fun k h => h.elim) (by omega))
  clear Hw18 Hv18 Ha18 Hb18 Hc18 Hd18 HC18
  clear hB
  go_wp2_with fail
  refine (left_any W19 _ _ _ _ _ Hc19.out).mono ?_
  rintro e W19 ⟨rfl, rfl⟩
  rw [show (([2, 97, 98] : List Int).length : Int) = 3 from rfl]
  go_wp2_with fail
  refine (r8_go W19 _ _ _ _ Hd19.out).mono ?_
  intro e W20 hp
  obtain ⟨hK, hs20, f, rfl, hf, hN⟩ := hp.some (rest := [8]) (by decide +kernel)
  obtain rfl : f = .int .u8 7 := hf.trans (congrArg (Value.int .u8) (by decide +kernel))
  clear hf
  clear hp
  have Hd20 := hide hN
  clear hN
  have Hw20 := hide (Hw19.out.keep hK (fun k h1 h2 => by simp only [iv] at h1 h2; omega))
  have Hv20 := hide (Hv19.out.keep hK (fun k h1 h2 => by simp only [iv] at h1 h2; omega))
  have Ha20 := hide (Ha19.out.keep hK (fun k h1 h2 => by simp only [iv] at h1 h2; omega))
  have Hb20 := hide (Hb19.out.keep hK (fun k h1 h2 => by simp only [iv] at h1 h2; omega))
  have Hc20 := hide (Hc19.out.keep hK (fun k h1 h2 => by simp only [iv] at h1 h2; omega))
  have HC20 := hide (hK.through HC19.out (fun k h => by simp only [iv] at h; omega) (by omega))
  clear Hw19 Hv19 Ha19 Hb19 Hc19 Hd19 HC19
  clear hK
  go_wp2_with fail
  refine (endr_any W20 _ _ _ _ _ Hd20.out).mono ?_
  rintro e W21 ⟨rfl, hK, hN⟩
  have hs21 := hK.size
  simp only [List.isEmpty_nil, List.isEmpty_cons, Bool.not_true, Bool.not_false, Bool.or_false, Bool.or_true, Bool.false_or, Bool.true_or] at hN ⊢
  rw [show errOf true = 2 from rfl]
  have Hd21 := hide hN
  clear hN
  have Hw21 := hide (Hw20.out.keep hK (fun k h1 h2 => by simp only [iv] at h1 h2; omega))
  have Hv21 := hide (Hv20.out.keep hK (fun k h1 h2 => by simp only [iv] at h1 h2; omega))
  have Ha21 := hide (Ha20.out.keep hK (fun k h1 h2 => by simp only [iv] at h1 h2; omega))
  have Hb21 := hide (Hb20.out.keep hK (fun k h1 h2 => by simp only [iv] at h1 h2; omega))
  have Hc21 := hide (Hc20.out.keep hK (fun k h1 h2 => by simp only [iv] at h1 h2; omega))
  have HC21 := hide (hK.through HC20.out (fun k h => by simp only [iv] at h; omega) (by omega))
  clear Hw20 Hv20 Ha20 Hb20 Hc20 Hd20 HC20
  clear hK
  go_wp2_with fail
  go_ret
  exact ⟨rfl, HC21.out⟩
end Go.Proofs.YtdlhengfhmkpdaaDoor
