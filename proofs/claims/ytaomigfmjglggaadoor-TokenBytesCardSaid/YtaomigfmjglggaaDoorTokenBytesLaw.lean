/- Law TokenBytes, walked. -/
import Derived.Test.YtaomigfmjglggaaDoorTokenBytesA
namespace Go.Proofs.YtaomigfmjglggaaDoor
open Go.RowKit

set_option maxRecDepth 100000 in
set_option maxHeartbeats 4000000 in
theorem bytes_walk (t : Tk) (sv : Value) (bs : List Int) (w : World) (hT : Tab w) (hp : t.pre) (hm : SlAt w sv bs) (hmb : ∀ x ∈ bs, 0 ≤ x ∧ x < 256) :
    Calls Tryd.prog 6 #[.agg (tkA t), sv] w (LawPost w) := by
  obtain ⟨ba, mc, rfl⟩ := hm.len
  have HT := hide hT
  have HM := hide hm
  have HL := hide (LC.first w t (.slice ba bs.length mc) bs hm)
  have HPT := hide hp
  have HMT := hide hp.mac
  have HMB := hide hmb
  have HAW := hide (fun W (h : Below w.heap.size w W) => awake_any W (HT.out.below h HT.out.two))
  have HLS := hide (fun W => long_any none 0 0 0 0 t W)
  obtain ⟨q, hq⟩ : ∃ q, bs.length = q := ⟨_, rfl⟩
  have HQ := tuck hq
  rw [hq] at HL HM ⊢
  clear hp hm hT hmb hq
  unfold ringA at *
  by_cases hl : longB 0 t = true
  · rw [hl] at HLS
    clear hl
    go_enter Tryd.func6, Tryd.ntmps6
    go_wp2_with (first | (refine wpList_load_tk rfl (.tmp 2) rfl w.heap.size rfl t HMT.out HL.out.x ?_) | (go_at_call 11; refine (HLS.out _).mono ?_; rintro e w2 ⟨rfl, hB⟩; have HL2 := hide (HL.out.next hB); clear hB HL HLS) | (go_at_call 12; refine (HAW.out _ HL2.out.b).mono ?_; rintro e wz ⟨rfl, hB⟩; have HLz := hide (HL2.out.next hB); clear hB HL2))
    go_ret
    exact ⟨rfl, HLz.out.b⟩
  have hl1 : longB 0 t = false := by simpa using hl
  rw [hl1] at HLS
  have HOT := hide (HPT.out.ok (longB0_not hl1).1 (longB0_not hl1).2)
  have HL1 := tuck hl1
  clear hl hl1
  by_cases hq1000 : 1000 < q
  · have hq1 : (1000 : Int) < (q : Int) := by omega
    have hq2 : decide ((1000 : Int) < (q : Int)) = true := by simpa using hq1
    have hq3 : decide (1000 < q) = true := by simpa using hq1000
    go_enter Tryd.func6, Tryd.ntmps6
    go_wp2_with (first | (refine wpList_load_tk rfl (.tmp 2) rfl w.heap.size rfl t HMT.out HL.out.x ?_) | (go_at_call 11; refine (HLS.out _).mono ?_; rintro e w2 ⟨rfl, hB⟩; have HL2 := hide (HL.out.next hB); clear hB HL HLS) | (go_at_call 12; refine (HAW.out _ HL2.out.b).mono ?_; rintro e wz ⟨rfl, hB⟩; have HLz := hide (HL2.out.next hB); clear hB HL2))
    go_ret
    exact ⟨rfl, HLz.out.b⟩
  have HF := hide (show Fine bs from ⟨HMB.out, by rw [HQ.out]; omega⟩)
  cases hmt : mayT t with
  | true =>
    cases hr : readS bs with
    | some z => exact bytes_main1 t z ba q mc bs w HT.out HOT.out HM.out HF.out HQ.out hq1000 HL1.out hmt hr
    | none => exact bytes_main2 t ba q mc bs w HT.out HOT.out HM.out HF.out HQ.out hq1000 HL1.out hmt hr
  | false =>
    cases hr : readS bs with
    | some z => exact bytes_main3 t z ba q mc bs w HT.out HOT.out HM.out HF.out HQ.out hq1000 HL1.out hmt hr
    | none => exact bytes_main4 t ba q mc bs w HT.out HOT.out HM.out HF.out HQ.out hq1000 HL1.out hmt hr
end Go.Proofs.YtaomigfmjglggaaDoor
