/- The law CodeBounds, walked. -/
import Derived.Test.YtjcdmffjpkckoaaDoorCdCuts
import Derived.Test.YtjcdmffjpkckoaaDoorCdAwake
namespace Go.Proofs.YtjcdmffjpkckoaaDoor
open Go.RowKit

def textF (s : ByteArray) : Fld := ⟨3, 0, 0, 0, s⟩
def rawF (s : ByteArray) : Fld := ⟨4, 0, 0, 0, s⟩
theorem textF_bytes (s b : ByteArray) : fieldsS [textF s, rawF b] = textS s ++ bytesOf b := by
  have h1 : (textF s).kd = 3 := by show Int.tmod (bits BinOp.and IntKind.i64 3 65535) 5 = 3; decide
  have h2 : (rawF b).kd = 4 := by show Int.tmod (bits BinOp.and IntKind.i64 4 65535) 5 = 4; decide
  have h3 : (textF s).s = s := rfl
  have h4 : (rawF b).s = b := rfl
  simp [fieldsS, fieldS, h1, h2, h3, h4]
theorem textF_ok (s : ByteArray) (h : s.size ≤ maxLen) : (textF s).ok := ⟨by simp [textF], h, by simp [textF], by simp [textF]⟩
theorem rawF_ok (s : ByteArray) (h : s.size ≤ maxLen) : (rawF s).ok := ⟨by simp [rawF], h, by simp [rawF], by simp [rawF]⟩

theorem written_two (s b : ByteArray) (hs : s.size ≤ 20000) (hb : b.size ≤ 20000) (w : World) (ht : Tab w) :
    Calls Tryd.prog 35 #[.slice (some ⟨w.heap.size, 0, none⟩) 2 2] (w.alloc (.cells #[.int .i64 3, .int .i64 0, .int .i64 0, .int .u64 0, .string s, .int .i64 4, .int .i64 0, .int .i64 0, .int .u64 0, .string b] 32)) (fun e w' => ∃ v, e = .returned v ∧ SlAt w' v (textS s ++ bytesOf b) ∧ Below w.heap.size w w') := by
  have hB : Below w.heap.size w (w.alloc (.cells ((textF s).cells ++ (rawF b).cells).toArray 32)) := (Below.refl _ _).alloc (Nat.le_refl _) _
  have h1 := uintS_len s.size
  have h2 := length_bytesOf s
  have h3 := length_bytesOf b
  have hm : ∀ x : ByteArray, x.size ≤ 20000 → x.size ≤ maxLen := fun x h => by unfold maxLen; omega
  have hf : ∀ f ∈ [textF s, rawF b], f.ok ∧ f.s.size ≤ 100000000 := by
    intro f hf
    simp only [List.mem_cons, List.not_mem_nil, or_false] at hf
    rcases hf with rfl | rfl
    · exact ⟨textF_ok s (hm s hs), Nat.le_trans hs (by omega)⟩
    · exact ⟨rawF_ok b (hm b hb), Nat.le_trans hb (by omega)⟩
  have h := written_any [textF s, rawF b] _ _ (ht.below hB ht.two) (fat_two w (textF s) (rawF b)) (fun f h => (hf f h).1) (by rw [textF_bytes, textS]; simp; omega) (fun f h => (hf f h).2) (by simp)
  rw [textF_bytes] at h
  refine Calls.mono h ?_
  rintro e w' ⟨v, rfl, hr, hb⟩
  exact ⟨v, rfl, hr.slAt, hB.trans (hb.mono hB.size)⟩

set_option maxRecDepth 100000 in
set_option maxHeartbeats 4000000 in
theorem bounds_walk (s b : ByteArray) (most : Int) (w : World) (ht : Tab w) (hs : s.size ≤ maxLen) (hb : b.size ≤ maxLen) (hm : (Lit.int .i64 most).wf = true) :
    Calls Tryd.prog 10 #[.string s, .string b, .int .i64 most] w (LawPost w) := by
  have h2 := ht.two
  have hm2 : most < 18446744073709551616 := by simp [Lit.wf, IntKind.min, IntKind.max, IntKind.signed, IntKind.bits] at hm; omega
  clear hm
  by_cases hbig : 20000 < s.size ∨ 20000 < b.size
  · have HAW := hide (awake_any w ht)
    by_cases h1 : 20000 < s.size
    · have h1i : (s.size : Int) > 20000 := by omega
      go_enter Tryd.func10, Tryd.ntmps10
      go_wp2_with fail
      refine HAW.out.mono ?_
      rintro e w1 ⟨rfl, hB⟩
      go_wp2_with fail
      go_ret
      exact ⟨rfl, hB⟩
    · have h1i : ¬ (s.size : Int) > 20000 := by omega
      have h2i : (b.size : Int) > 20000 := by omega
      go_enter Tryd.func10, Tryd.ntmps10
      go_wp2_with fail
      refine HAW.out.mono ?_
      rintro e w1 ⟨rfl, hB⟩
      go_wp2_with fail
      go_ret
      exact ⟨rfl, hB⟩
  · have h1i : ¬ (s.size : Int) > 20000 := by omega
    have h2i : ¬ (b.size : Int) > 20000 := by omega
    have HW := hide (written_two s b (by omega) (by omega) w ht)
    have HCT := hide (cutTS_textS most s (bytesOf b) hs)
    have HRG : Hid (∀ x ∈ textS s ++ bytesOf b, 0 ≤ x ∧ x < 256) := hide (fun x hx => by
      rcases List.mem_append.1 hx with h | h
      · exact textS_range s hs x h
      · exact bytesOf_range b x h)
    have HLN : Hid ((textS s ++ bytesOf b).length ≤ 50000 ∧ (bytesOf b).length = b.size ∧ b.size ≤ 20000) := hide (by
      have h1 := uintS_len s.size
      have h2 := length_bytesOf s
      have h3 := length_bytesOf b
      simp [textS]
      omega)
    have HSB := hide (str_bytesOf s)
    have HBB := hide (str_bytesOf b)
    clear hs hb hbig
    generalize textS s ++ bytesOf b = X at HW HCT HRG HLN
    go_enter Tryd.func10, Tryd.ntmps10
    go_wp2_with fail
    refine HW.out.mono ?_
    rintro e w1 ⟨v, rfl, hsl, hB1⟩
    obtain ⟨ao, cap, rfl⟩ := hsl.len
    have HN := hide (newReader_any _ _ w1 hsl (by have := HLN.out.1; omega))
    have HB1 := hide hB1
    clear hsl hB1 HW
    go_wp2_with fail
    refine HN.out.mono ?_
    rintro e w2 ⟨g, rfl, hB2, hR⟩
    have HB2 := hide (HB1.out.trans (hB2.mono HB1.out.size))
    have HT := hide (rt_go most w2 _ _ _ _ hR hm2 (ht.below HB2.out h2) HRG.out (by have := HLN.out.1; omega))
    have hle := HB1.out.size
    clear hB2 HN HB1
    go_wp2_with fail
    refine HT.out.mono ?_
    intro e w3 hp
    rw [HCT.out] at hp
    have hs23 : w2.heap.size ≤ w3.heap.size := hp.1.size
    have HB3 := hide (hp.1.through HB2.out (fun k h => by omega) HB2.out.size)
    have hT3 := ht.below HB3.out h2
    clear HT HB2
    by_cases hlt : most < (s.size : Int)
    · rw [if_pos hlt] at hp
      obtain ⟨_, _, rfl, hN3⟩ := hp.none rfl
      have HN3 := hide hN3
      have HAW := hide (awake_any w3 hT3)
      clear hN3 hp
      go_wp2_with fail
      refine (err_any w3 _ _ _ _ _ HN3.out).mono ?_
      rintro e w3 ⟨rfl, rfl⟩
      rw [show errOf true = 2 from rfl]
      go_wp2_with fail
      refine (left_any w3 _ _ _ _ _ HN3.out).mono ?_
      rintro e w3 ⟨rfl, rfl⟩
      go_wp2_with fail
      refine HAW.out.mono ?_
      rintro e w4 ⟨rfl, hB4⟩
      have HB4 := hide (HB3.out.trans (hB4.mono HB3.out.size))
      clear hB4
      go_wp2_with fail
      go_ret
      exact ⟨rfl, HB4.out⟩
    · rw [if_neg hlt] at hp
      simp only [Option.map_some, Option.getD_some] at hp
      obtain ⟨_, _, f, rfl, hf, hN3⟩ := hp.some rfl
      obtain rfl : f = .string s := hf.trans (by rw [HSB.out])
      have HN3 := hide hN3
      have HRW := hide (rr_go (b.size : Int) w3 _ _ _ _ hN3 (by have := HLN.out.2; omega))
      clear hN3 hp hf
      go_wp2_with fail
      refine (err_any w3 _ _ _ _ _ HN3.out).mono ?_
      rintro e w3 ⟨rfl, rfl⟩
      rw [show errOf false = 0 from rfl]
      go_wp2_with fail
      refine (left_any w3 _ _ _ _ _ HN3.out).mono ?_
      rintro e w3 ⟨rfl, rfl⟩
      rw [HLN.out.2.1]
      go_wp2_with fail
      refine HRW.out.mono ?_
      intro e w4 hp
      obtain ⟨hK, hs34, f, rfl, hf, hN4⟩ := hp.some (rest := []) (by
        rw [cutRS, if_neg (by have := HLN.out.2; omega)]
        congr 1
        exact List.drop_eq_nil_of_le (by have := HLN.out.2; omega))
      have HB4 := hide (hK.through HB3.out (fun k h => by omega) HB3.out.size)
      have HAW := hide (awake_any w4 (ht.below HB4.out h2))
      rw [List.take_of_length_le (by have := HLN.out.2; omega)] at hf
      have hst := hf.str
      rw [HBB.out] at hst
      obtain ⟨ao4, cap4, hv⟩ := hf.slAt.len
      rw [HLN.out.2.1] at hv
      subst hv
      clear hK hN4 hp hf HN3 HRW
      go_wp2_with fail
      refine HAW.out.mono ?_
      rintro e w5 ⟨rfl, hB5⟩
      have HB5 := hide (HB4.out.trans (hB5.mono HB4.out.size))
      clear hB5
      go_wp2_with fail
      go_ret
      exact ⟨rfl, HB5.out⟩
end Go.Proofs.YtjcdmffjpkckoaaDoor
