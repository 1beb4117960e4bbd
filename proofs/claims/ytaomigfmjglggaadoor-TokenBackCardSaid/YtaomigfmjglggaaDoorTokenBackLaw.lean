/- Law TokenBack, walked. -/
import Derived.Test.YtaomigfmjglggaaDoorTokenBackA
import Derived.Test.YtaomigfmjglggaaDoorTokenBackB
import Derived.Test.YtaomigfmjglggaaDoorTokenBackC
namespace Go.Proofs.YtaomigfmjglggaaDoor
open Go.RowKit

set_option maxRecDepth 100000 in
set_option maxHeartbeats 4000000 in
theorem back_walk (s t : Tk) (av : Int) (mv : Value) (ms : List Int) (w : World) (hT : Tab w) (hs : s.pre) (hp : t.pre) (hm : SlAt w mv ms) (hmb : ∀ x ∈ ms, 0 ≤ x ∧ x < 256) :
    Calls Tryd.prog 9 #[.agg (tkA s), .agg (tkA t), .int .i64 av, mv] w (LawPost w) := by
  obtain ⟨ma, mc, rfl⟩ := hm.len
  have HT := hide hT
  have HM := hide hm
  have HL := hide (LB.first w s t (.slice ma ms.length mc) ms hm)
  have HPS := hide hs
  have HPT := hide hp
  have HMS := hide hs.mac
  have HMT := hide hp.mac
  have HMB := hide hmb
  have HAW := hide (fun W (h : Below w.heap.size w W) => awake_any W (HT.out.below h HT.out.two))
  have HLS := hide (fun W => long_any none 0 0 0 0 s W)
  have HLT := hide (fun W => long_any none 0 0 0 0 t W)
  obtain ⟨q, hq⟩ : ∃ q, ms.length = q := ⟨_, rfl⟩
  have HQ := tuck hq
  rw [hq] at HL HM ⊢
  clear hs hp hm hT hmb hq
  unfold ringA at *
  by_cases hl : longB 0 s = true
  · rw [hl] at HLS
    clear hl
    go_enter Tryd.func9, Tryd.ntmps9
    go_wp2_with (first | (refine wpList_load_tk rfl (.tmp 4) rfl w.heap.size rfl s HMS.out HL.out.x ?_) | (go_at_call 11; refine (HLS.out _).mono ?_; rintro e w2 ⟨rfl, hB⟩; have HL2 := hide (HL.out.next hB); clear hB HL HLS) | (go_at_call 12; refine (HAW.out _ HL2.out.b).mono ?_; rintro e wz ⟨rfl, hB⟩; have HLz := hide (HL2.out.next hB); clear hB HL2))
    go_ret
    exact ⟨rfl, HLz.out.b⟩
  have hl1 : longB 0 s = false := by simpa using hl
  rw [hl1] at HLS
  have HOS := hide (HPS.out.ok (longB0_not hl1).1 (longB0_not hl1).2)
  have HL1 := tuck hl1
  clear hl hl1
  by_cases hl : longB 0 t = true
  · rw [hl] at HLT
    clear hl
    go_enter Tryd.func9, Tryd.ntmps9
    go_wp2_with (first | (refine wpList_load_tk rfl (.tmp 4) rfl w.heap.size rfl s HMS.out HL.out.x ?_) | (go_at_call 11; refine (HLS.out _).mono ?_; rintro e w2 ⟨rfl, hB⟩; have HL2 := hide (HL.out.next hB); clear hB HL HLS) | (refine wpList_load_tk_w (by rfl) (.tmp 5) rfl (w.heap.size + 1) rfl t HMT.out HL2.out.y ?_) | (go_at_call 11; refine (HLT.out _).mono ?_; rintro e w3 ⟨rfl, hB⟩; have HL3 := hide (HL2.out.next hB); clear hB HL2 HLT) | (go_at_call 12; refine (HAW.out _ HL3.out.b).mono ?_; rintro e wz ⟨rfl, hB⟩; have HLz := hide (HL3.out.next hB); clear hB HL3))
    go_ret
    exact ⟨rfl, HLz.out.b⟩
  have hl1 : longB 0 t = false := by simpa using hl
  rw [hl1] at HLT
  have HOT := hide (HPT.out.ok (longB0_not hl1).1 (longB0_not hl1).2)
  have HL2x := tuck hl1
  clear hl hl1
  by_cases hq100 : 100 < q
  · have hq1 : (100 : Int) < (q : Int) := by omega
    go_enter Tryd.func9, Tryd.ntmps9
    go_wp2_with (first | (refine wpList_load_tk rfl (.tmp 4) rfl w.heap.size rfl s HMS.out HL.out.x ?_) | (go_at_call 11; refine (HLS.out _).mono ?_; rintro e w2 ⟨rfl, hB⟩; have HL2 := hide (HL.out.next hB); clear hB HL HLS) | (refine wpList_load_tk_w (by rfl) (.tmp 5) rfl (w.heap.size + 1) rfl t HMT.out HL2.out.y ?_) | (go_at_call 11; refine (HLT.out _).mono ?_; rintro e w3 ⟨rfl, hB⟩; have HL3 := hide (HL2.out.next hB); clear hB HL2 HLT) | (go_at_call 12; refine (HAW.out _ HL3.out.b).mono ?_; rintro e wz ⟨rfl, hB⟩; have HLz := hide (HL3.out.next hB); clear hB HL3))
    go_ret
    exact ⟨rfl, HLz.out.b⟩
  by_cases hmt : mayT t = true
  rotate_left
  · replace hmt : mayT t = false := by simpa using hmt
    have hq1 : ¬ (100 : Int) < (q : Int) := by omega
    have hq2 : decide ((100 : Int) < (q : Int)) = false := by simpa using hq1
    have hq3 : decide (100 < q) = false := by simpa using hq100
    have HBY := hide (fun W => bytes_no t HOT.out hmt W)
    clear hmt
    go_enter Tryd.func9, Tryd.ntmps9
    go_wp2_with (first | (refine wpList_load_tk rfl (.tmp 4) rfl w.heap.size rfl s HMS.out HL.out.x ?_) | (go_at_call 11; refine (HLS.out _).mono ?_; rintro e w2 ⟨rfl, hB⟩; have HL2 := hide (HL.out.next hB); clear hB HL HLS) | (refine wpList_load_tk_w (by rfl) (.tmp 5) rfl (w.heap.size + 1) rfl t HMT.out HL2.out.y ?_) | (go_at_call 11; refine (HLT.out _).mono ?_; rintro e w3 ⟨rfl, hB⟩; have HL3 := hide (HL2.out.next hB); clear hB HL2 HLT) | (refine wpList_load_tk rfl (.tmp 5) rfl (w.heap.size + 1) rfl t HMT.out HL3.out.y ?_) | (go_at_call 24; refine (HBY.out _).mono ?_; rintro e w4 ⟨rfl, hB⟩; have HL4 := hide (HL3.out.next hB); clear hB HL3 HBY) | (go_at_call 12; refine (HAW.out _ HL4.out.b).mono ?_; rintro e wz ⟨rfl, hB⟩; have HLz := hide (HL4.out.next hB); clear hB HL4))
    go_ret
    exact ⟨rfl, HLz.out.b⟩
  by_cases hav : 0 < av
  · by_cases hme : ms = []
    · by_cases hms : mayT s = true
      · exact back_main1 s t av ma q mc ms w HT.out HOS.out HOT.out HM.out HMB.out HQ.out hq100 HL1.out HL2x.out hmt hme hms hav
      · exact back_main3 s t av ma q mc ms w HT.out HOS.out HOT.out HM.out HMB.out HQ.out hq100 HL1.out HL2x.out hmt hme (by simpa using hms) hav
    · by_cases hms : mayT s = true
      · exact back_main5 s t av ma q mc ms w HT.out HOS.out HOT.out HM.out HMB.out HQ.out hq100 HL1.out HL2x.out hmt hme hms hav
      · exact back_main7 s t av ma q mc ms w HT.out HOS.out HOT.out HM.out HMB.out HQ.out hq100 HL1.out HL2x.out hmt hme (by simpa using hms) hav
  · by_cases hme : ms = []
    · by_cases hms : mayT s = true
      · exact back_main2 s t av ma q mc ms w HT.out HOS.out HOT.out HM.out HMB.out HQ.out hq100 HL1.out HL2x.out hmt hme hms hav
      · exact back_main4 s t av ma q mc ms w HT.out HOS.out HOT.out HM.out HMB.out HQ.out hq100 HL1.out HL2x.out hmt hme (by simpa using hms) hav
    · by_cases hms : mayT s = true
      · exact back_main6 s t av ma q mc ms w HT.out HOS.out HOT.out HM.out HMB.out HQ.out hq100 HL1.out HL2x.out hmt hme hms hav
      · exact back_main8 s t av ma q mc ms w HT.out HOS.out HOT.out HM.out HMB.out HQ.out hq100 HL1.out HL2x.out hmt hme (by simpa using hms) hav
end Go.Proofs.YtaomigfmjglggaaDoor
