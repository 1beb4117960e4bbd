/- Values: MayValue; a header, headers: mayOne, May; a header's line. -/
import Derived.Test.YtilefgmlnmpeoaaDoorHdName
import Derived.Test.YtilefgmlnmpeoaaDoorHdLib
namespace Go.Proofs.YtilefgmlnmpeoaaDoor
open Go.RowKit Go.Lib

theorem ws_idx (c : UInt8) : decide (Lib.indexByte [32, 9] c < 0) = !wsB c := by
  have h : decide (Lib.indexByte [32, 9] c < 0) = !(([32, 9] : List UInt8).contains c) := by
    by_cases hc : c ∈ ([32, 9] : List UInt8)
    · rw [decide_eq_false (fun h => idx_iff.1 h hc), List.contains_iff_mem.2 hc]; rfl
    · rw [decide_eq_true (idx_iff.2 hc)]
      have : ([32, 9] : List UInt8).contains c = false := by
        rw [Bool.eq_false_iff]
        exact fun h => hc (List.contains_iff_mem.1 h)
      rw [this]; rfl
  rw [h]
  exact congrArg (fun f : UInt8 → Bool => !(f c)) ws_set
set_option maxRecDepth 100000 in
set_option maxHeartbeats 1000000 in
theorem mayValue_any (s : ByteArray) (hs : s.size ≤ 1000000) (w : World) : Calls Tryd.prog 13 #[.string s] w (fun e w' => e = .returned (.bool (valP s.data.toList)) ∧ Below w.heap.size w w') := by
  have hlen := size_list s
  by_cases h2 : 512 < s.size
  · have hR : valP s.data.toList = false := by
      unfold valP
      rw [decide_eq_false (by omega), Bool.false_and, Bool.false_and]
    rw [hR]
    have h2' : (512 : Int) < (s.size : Int) := by omega
    clear hR hlen
    go_enter Tryd.func13, Tryd.ntmps13
    go_wp2_with fail
    go_ret
    exact ⟨rfl, Below.refl _ _⟩
  have h2' : ¬ (512 : Int) < (s.size : Int) := by omega
  have LT := hideL (fun W => trim_any s (by omega) W)
  obtain ⟨V, hV⟩ : ∃ V, s.data.toList.all (fun c => wsB c || viB c) = V := ⟨_, rfl⟩
  have hR : valP s.data.toList = (V && decide (trimP s.data.toList = s.data.toList)) := by
    unfold valP
    rw [decide_eq_true (by omega), Bool.true_and, hV, trim_id]
  rw [hR]
  obtain ⟨T, hT⟩ : ∃ T, bo (trimP s.data.toList) = T := ⟨_, rfl⟩
  rw [hT] at LT
  by_cases hTs : T = s
  · have e1 : decide (trimP s.data.toList = s.data.toList) = true := decide_eq_true (by
      rw [hTs] at hT
      have := congrArg (fun x : ByteArray => x.data.toList) hT
      exact this)
    have he := eqs_true hTs
    rw [e1, Bool.and_true]
    have HV : HidL ((s.data.toList.drop 0).all (fun c => wsB c || viB c) = V) := ⟨hV⟩
    have HL := hideL hlen
    obtain ⟨n, hn⟩ : ∃ n, s.size = n := ⟨_, rfl⟩
    have HN := hideL hn
    clear hR e1 hT hTs hV hlen h2 hn
    have LI := hideL (fun (c : UInt8) (W : World) => indexByte_any ⟨#[32, 9]⟩ (c.toNat : Int) W)
    go_enter Tryd.func13, Tryd.ntmps13
    go_wp2_with (go_at_call 33; refine (LT.out _).mono ?_; rintro e w1 ⟨rfl, hB1⟩; have HB := hideL hB1; clear hB1)
    clear LT he
    go_loopw [16] (fun i wr => ∃ k : Nat, k ≤ n ∧ i = .int .i64 k ∧ wr = w1 ∧ HidL ((s.data.toList.drop k).all (fun c => wsB c || viB c) = V)) (fun i _ => n - (RowKit.intOf i).toNat)
    case atStart => exact ⟨0, Nat.zero_le _, rfl, rfl, HV⟩
    case round =>
      obtain ⟨k, hk, rfl, rfl, HD⟩ := hrel
      clear HV
      by_cases hlt : k < n
      · have hks : k < s.size := by rw [HN.out]; exact hlt
        have hlt' : (k : Int) < (s.size : Int) := by omega
        have hD := HD.out
        rw [byte_at s k hks, List.all_cons] at hD
        obtain ⟨c, hc⟩ : ∃ c, s[k] = c := ⟨_, rfl⟩
        rw [hc] at hD
        have hi := LI.out c
        rw [show ((c.toNat : Nat) : Int).toNat.toUInt8 = c from by simp] at hi
        have hix := ws_idx c
        generalize Lib.indexByte [32, 9] c = I at *
        have LJ := hideL hi
        clear hi
        cases hv : viB c
        · have hout : c.toNat < 33 ∨ (¬ c.toNat < 33 ∧ 126 < c.toNat) := by
            have := of_decide_eq_false hv
            omega
          rw [hv, Bool.or_false] at hD
          cases hw : wsB c
          · rw [hw, Bool.false_and] at hD
            subst hD
            rw [hw] at hix
            have hI : I < 0 := of_decide_eq_true hix
            clear hix HD hv hw
            rcases hout with h3 | ⟨h3, h4⟩
            · have h3' : (c.toNat : Int) < 33 := by omega
              go_wp2_with (go_at_call 34; refine (LJ.out _).mono ?_; rintro e w3 ⟨rfl, rfl⟩)
              go_ret
              exact ⟨rfl, HB.out⟩
            · have h3' : ¬ (c.toNat : Int) < 33 := by omega
              have h4' : (126 : Int) < (c.toNat : Int) := by omega
              go_wp2_with (go_at_call 34; refine (LJ.out _).mono ?_; rintro e w3 ⟨rfl, rfl⟩)
              go_ret
              exact ⟨rfl, HB.out⟩
          · rw [hw, Bool.true_and] at hD
            rw [hw] at hix
            have hI : ¬ I < 0 := of_decide_eq_false hix
            have HX := hideL hD
            clear hix HD hv hw hD
            rcases hout with h3 | ⟨h3, h4⟩
            · have h3' : (c.toNat : Int) < 33 := by omega
              go_wp2_with (go_at_call 34; refine (LJ.out _).mono ?_; rintro e w3 ⟨rfl, rfl⟩)
              go_roundw
              case rel => exact ⟨k + 1, by omega, by go_num, trivial, HX⟩
              case measure => simp [RowKit.intOf]; omega
            · have h3' : ¬ (c.toNat : Int) < 33 := by omega
              have h4' : (126 : Int) < (c.toNat : Int) := by omega
              go_wp2_with (go_at_call 34; refine (LJ.out _).mono ?_; rintro e w3 ⟨rfl, rfl⟩)
              go_roundw
              case rel => exact ⟨k + 1, by omega, by go_num, trivial, HX⟩
              case measure => simp [RowKit.intOf]; omega
        · have hin := of_decide_eq_true hv
          have h3' : ¬ (c.toNat : Int) < 33 := by omega
          have h4' : ¬ (126 : Int) < (c.toNat : Int) := by omega
          rw [hv, Bool.or_true, Bool.true_and] at hD
          have HX := hideL hD
          clear hix HD hv hD LJ hin
          go_wp2_with fail
          go_roundw
          case rel => exact ⟨k + 1, by omega, by go_num, trivial, HX⟩
          case measure => simp [RowKit.intOf]; omega
      · obtain rfl : k = n := by omega
        have hlt' : ¬ (k : Int) < (s.size : Int) := by have := HN.out; omega
        have hD := HD.out
        rw [List.drop_of_length_le (by rw [HL.out, HN.out]; omega)] at hD
        have hBt : V = true := hD.symm
        subst hBt
        clear HD hD
        go_wp2_with fail
        go_ret
        exact ⟨rfl, HB.out⟩
  · have e1 : decide (trimP s.data.toList = s.data.toList) = false := decide_eq_false (fun h => hTs (by rw [← hT, h, bo_of]))
    have he := eqs_false hTs
    rw [e1, Bool.and_false]
    clear hR e1 hT hTs hV hlen h2
    go_enter Tryd.func13, Tryd.ntmps13
    go_wp2_with (go_at_call 33; refine (LT.out _).mono ?_; rintro e w1 ⟨rfl, hB1⟩; have HB := hideL hB1; clear hB1)
    go_ret
    exact ⟨rfl, HB.out⟩

theorem goodP_eq (h : Hd) : goodP h = (nameP h.n.data.toList && valP h.v.data.toList) := rfl
set_option maxRecDepth 100000 in
theorem mayOne_any (h : Hd) (hf : h.n.size ≤ 1000000 ∧ h.v.size ≤ 1000000) (w : World) : Calls Tryd.prog 37 #[hdV h] w (fun e w' => e = .returned (.bool (goodP h)) ∧ Below w.heap.size w w') := by
  obtain ⟨n, v⟩ := h
  have LN := hideL (mayName_any n)
  have LV := hideL (mayValue_any v hf.2)
  rw [goodP_eq]
  simp only [hdV]
  clear hf
  generalize nameP n.data.toList = A at *
  generalize valP v.data.toList = B at *
  have HB := hideL ((Below.refl w.heap.size w).alloc (Nat.le_refl _) (.cells #[.string n, .string v] 23))
  have HX := hideL (HBox.new w n v)
  cases A
  · rw [Bool.false_and]
    go_enter Tryd.func37, Tryd.ntmps37
    go_wp2_with (go_at_call 11; refine (LN.out _).mono ?_; rintro e w2 ⟨rfl, hB2⟩)
    go_ret
    exact ⟨rfl, HB.out.trans (hB2.mono HB.out.size)⟩
  · rw [Bool.true_and]
    go_enter Tryd.func37, Tryd.ntmps37
    go_wp2_with (first
      | (go_at_call 11; refine (LN.out _).mono ?_; rintro e w2 ⟨rfl, hB2⟩; have c1 := (HX.out.next hB2).c1)
      | (go_at_call 13; refine (LV.out _).mono ?_; rintro e w3 ⟨rfl, hB3⟩))
    go_ret
    exact ⟨rfl, (HB.out.trans (hB2.mono HB.out.size)).trans (hB3.mono (Nat.le_trans HB.out.size hB2.size))⟩
set_option maxRecDepth 100000 in
theorem notMay_any (h : Hd) (hf : h.n.size ≤ 1000000 ∧ h.v.size ≤ 1000000) (w : World) : Calls Tryd.prog 36 #[hdV h] w (fun e w' => e = .returned (.bool !goodP h) ∧ Below w.heap.size w w') := by
  have LM := hideL (mayOne_any h hf)
  obtain ⟨n, v⟩ := h
  simp only [hdV] at LM ⊢
  clear hf
  generalize goodP ⟨n, v⟩ = A at *
  have HB := hideL ((Below.refl w.heap.size w).alloc (Nat.le_refl _) (.cells #[.string n, .string v] 23))
  go_enter Tryd.func36, Tryd.ntmps36
  go_wp2_with (go_at_call 37; refine (LM.out _).mono ?_; rintro e w2 ⟨rfl, hB2⟩)
  go_ret
  exact ⟨rfl, HB.out.trans (hB2.mono HB.out.size)⟩
/-- A header's line. -/
def lineP (h : Hd) : ByteArray := h.n ++ ⟨#[58, 32]⟩ ++ h.v
def lineV (h : Hd) : Value := if goodP h then .tuple #[.string (lineP h), .int .i64 0] else .tuple #[.string ⟨#[]⟩, .int .i64 1]
set_option maxRecDepth 100000 in
theorem line_any (h : Hd) (hf : h.n.size ≤ 1000000 ∧ h.v.size ≤ 1000000) (w : World) : Calls Tryd.prog 17 #[hdV h] w (fun e w' => e = .returned (lineV h) ∧ Below w.heap.size w w') := by
  have LM := hideL (mayOne_any h hf)
  obtain ⟨n, v⟩ := h
  unfold lineV lineP
  simp only [hdV] at LM ⊢
  generalize goodP ⟨n, v⟩ = A at *
  have HB := hideL ((Below.refl w.heap.size w).alloc (Nat.le_refl _) (.cells #[.string n, .string v] 23))
  have HX := hideL (HBox.new w n v)
  have a1 : ¬ 9223372036854775807 < n.size + 2 := by simp only at hf; omega
  have a2 : ¬ 9223372036854775807 < n.size + 2 + v.size := by simp only at hf; omega
  clear hf
  cases A
  · rw [if_neg (by decide)]
    go_enter Tryd.func17, Tryd.ntmps17
    go_wp2_with (go_at_call 37; refine (LM.out _).mono ?_; rintro e w2 ⟨rfl, hB2⟩)
    go_ret2
    exact ⟨rfl, HB.out.trans (hB2.mono HB.out.size)⟩
  · rw [if_pos rfl]
    go_enter Tryd.func17, Tryd.ntmps17
    go_wp2_with (go_at_call 37; refine (LM.out _).mono ?_; rintro e w2 ⟨rfl, hB2⟩; have c0 := (HX.out.next hB2).c0; have c1 := (HX.out.next hB2).c1)
    go_ret2
    exact ⟨rfl, HB.out.trans (hB2.mono HB.out.size)⟩
end Go.Proofs.YtilefgmlnmpeoaaDoor
