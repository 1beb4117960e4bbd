/- The law PathAlike (P8.6). -/
import Derived.Test.YthbgnkkjchaaeaaDoorPathQueryLaw
import Derived.Deep.CutBlock
import Derived.Deep.DeepCutAuto
import Derived.Test.YthbgnkkjchaaeaaDoorPhJoin
import Derived.Test.YthbgnkkjchaaeaaDoorPhRefN
namespace Go.Proofs.YthbgnkkjchaaeaaDoor
open Go.RowKit

set_option maxRecDepth 100000 in
set_option maxHeartbeats 2000000 in
theorem palike_long (s : ByteArray) (z what : Int) (h : 300 < s.size) (w0 : World) (hE : Env w0) : Calls Tryd.prog 5 #[.string s, .int .i64 z, .int .i64 what] w0 (fun e w' => e = .returned (.bool true) ∧ Below w0.heap.size w0 w') := by
  have HE := hideL hE
  have HB : HidL (Below w0.heap.size w0 w0) := ⟨Below.refl _ _⟩
  have LW := hideL (fun (W : World) (h : Env W) => awake_any W h)
  clear hE
  have i0 : (300 : Int) < (s.size : Int) := by omega
  clear h
  go_enter Tryd.func5, Tryd.ntmps5
  go_wp2_with (first
    | (go_at_call 7; with_reducible refine (LW.out _ HE.out).mono ?_; rintro e wx ⟨rfl, hB⟩; replace HE := hideL (HE.out.next hB); (try replace HG := hideL (HG.out.below hB)); (try replace HT := hideL (HT.out.below hB)); (try replace HU := hideL (HU.out.below hB)); replace HB := hideL (HB.out.trans (hB.mono HB.out.size)); clear hB)
    | go_region)
  all_goals go_ret
  all_goals exact ⟨rfl, HB.out⟩
set_option maxRecDepth 100000 in
set_option maxHeartbeats 2000000 in
theorem palike_low (s : ByteArray) (z what : Int) (h0 : ¬ 300 < s.size) (h : z < 0) (w0 : World) (hE : Env w0) : Calls Tryd.prog 5 #[.string s, .int .i64 z, .int .i64 what] w0 (fun e w' => e = .returned (.bool true) ∧ Below w0.heap.size w0 w') := by
  have HE := hideL hE
  have HB : HidL (Below w0.heap.size w0 w0) := ⟨Below.refl _ _⟩
  have LW := hideL (fun (W : World) (h : Env W) => awake_any W h)
  clear hE
  have i0 : ¬ (300 : Int) < (s.size : Int) := by omega
  clear h0
  go_enter Tryd.func5, Tryd.ntmps5
  go_wp2_with (first
    | (go_at_call 7; with_reducible refine (LW.out _ HE.out).mono ?_; rintro e wx ⟨rfl, hB⟩; replace HE := hideL (HE.out.next hB); (try replace HG := hideL (HG.out.below hB)); (try replace HT := hideL (HT.out.below hB)); (try replace HU := hideL (HU.out.below hB)); replace HB := hideL (HB.out.trans (hB.mono HB.out.size)); clear hB)
    | go_region)
  all_goals go_ret
  all_goals exact ⟨rfl, HB.out⟩
set_option maxRecDepth 100000 in
set_option maxHeartbeats 2000000 in
theorem palike_high (s : ByteArray) (z what : Int) (h0 : ¬ 300 < s.size) (h1 : ¬ z < 0) (h : (s.size : Int) ≤ z) (w0 : World) (hE : Env w0) : Calls Tryd.prog 5 #[.string s, .int .i64 z, .int .i64 what] w0 (fun e w' => e = .returned (.bool true) ∧ Below w0.heap.size w0 w') := by
  have HE := hideL hE
  have HB : HidL (Below w0.heap.size w0 w0) := ⟨Below.refl _ _⟩
  have LW := hideL (fun (W : World) (h : Env W) => awake_any W h)
  clear hE
  have i0 : ¬ (300 : Int) < (s.size : Int) := by omega
  clear h0
  go_enter Tryd.func5, Tryd.ntmps5
  go_wp2_with (first
    | (go_at_call 7; with_reducible refine (LW.out _ HE.out).mono ?_; rintro e wx ⟨rfl, hB⟩; replace HE := hideL (HE.out.next hB); (try replace HG := hideL (HG.out.below hB)); (try replace HT := hideL (HT.out.below hB)); (try replace HU := hideL (HU.out.below hB)); replace HB := hideL (HB.out.trans (hB.mono HB.out.size)); clear hB)
    | go_region)
  all_goals go_ret
  all_goals exact ⟨rfl, HB.out⟩
set_option maxRecDepth 100000 in
set_option maxHeartbeats 2000000 in
theorem palike_none (s : ByteArray) (m : Nat) (what : Int) (h0 : ¬ 300 < s.size) (hm : m < s.size) (hn : norP s.data.toList = none) (w0 : World) (hE : Env w0) : Calls Tryd.prog 5 #[.string s, .int .i64 (m : Int), .int .i64 what] w0 (fun e w' => e = .returned (.bool true) ∧ Below w0.heap.size w0 w') := by
  have HE := hideL hE
  have HB : HidL (Below w0.heap.size w0 w0) := ⟨Below.refl _ _⟩
  have LW := hideL (fun (W : World) (h : Env W) => awake_any W h)
  clear hE
  have i0 : ¬ (300 : Int) < (s.size : Int) := by omega
  have j0 : ¬ (m : Int) < 0 := by omega
  have j1 : ¬ (s.size : Int) ≤ (m : Int) := by omega
  have LP : HidL (∀ W : World, Env W → Calls Tryd.prog 8 #[.string s] W fun e w' => e = .returned (.tuple #[.string ⟨#[]⟩, .string ⟨#[]⟩, .int .i64 2]) ∧ Below W.heap.size W w') := ⟨fun W h => by have hh := normal_any s (by omega) W h; rw [hn] at hh; exact hh⟩
  clear hn h0 hm
  go_enter Tryd.func5, Tryd.ntmps5
  go_wp2_with (first
    | (go_at_call 8; with_reducible refine (LP.out _ HE.out).mono ?_; rintro e wx ⟨rfl, hB⟩; replace HE := hideL (HE.out.next hB); (try replace HG := hideL (HG.out.below hB)); (try replace HT := hideL (HT.out.below hB)); (try replace HU := hideL (HU.out.below hB)); replace HB := hideL (HB.out.trans (hB.mono HB.out.size)); clear hB)
    | (go_at_call 7; with_reducible refine (LW.out _ HE.out).mono ?_; rintro e wx ⟨rfl, hB⟩; replace HE := hideL (HE.out.next hB); (try replace HG := hideL (HG.out.below hB)); (try replace HT := hideL (HT.out.below hB)); (try replace HU := hideL (HU.out.below hB)); replace HB := hideL (HB.out.trans (hB.mono HB.out.size)); clear hB)
    | go_region)
  all_goals go_ret
  all_goals exact ⟨rfl, HB.out⟩
def letN (n : Nat) : Bool := decide (97 ≤ n ∧ n ≤ 122 ∨ 48 ≤ n ∧ n ≤ 57)
/-- Does a % stand close ahead? -/
def nearP (s : ByteArray) (m : Nat) : Bool := (decide (1 ≤ m) && decide (s.data.toList.getD (m - 1) 0 = 37)) || (decide (2 ≤ m) && decide (s.data.toList.getD (m - 2) 0 = 37))
def loL : List UInt8 := [48, 49, 50, 51, 52, 53, 54, 55, 56, 57, 97, 98, 99, 100, 101, 102]
theorem lo_cut (x : Nat) (h : x < 16) : (⟨#[48, 49, 50, 51, 52, 53, 54, 55, 56, 57, 97, 98, 99, 100, 101, 102]⟩ : ByteArray).extract x (x + 1) = bo [loL.getD x 0] := by
  have : x = 0 ∨ x = 1 ∨ x = 2 ∨ x = 3 ∨ x = 4 ∨ x = 5 ∨ x = 6 ∨ x = 7 ∨ x = 8 ∨ x = 9 ∨ x = 10 ∨ x = 11 ∨ x = 12 ∨ x = 13 ∨ x = 14 ∨ x = 15 := by omega
  apply bytes_ext
  rw [ex_list, bo_list]
  rcases this with rfl | rfl | rfl | rfl | rfl | rfl | rfl | rfl | rfl | rfl | rfl | rfl | rfl | rfl | rfl | rfl <;> rfl
theorem let_all : ∀ n : Nat, n < 256 → (if letN n = true then decide (stB (UInt8.ofNat n) = true ∧ UInt8.ofNat n ≠ 37 ∧ plB (UInt8.ofNat n) = true ∧ badR (UInt8.ofNat n) = false ∧ UInt8.ofNat n ≠ 47 ∧ n ≠ 63 ∧ twoV (loL.getD (n / 16) 0) (loL.getD (n % 16) 0) = some (UInt8.ofNat n) ∧ loL.getD (n / 16) 0 ≠ 63 ∧ loL.getD (n % 16) 0 ≠ 63) else true) = true := by decide +kernel
theorem let_facts (c : UInt8) (h : letN c.toNat = true) : stB c = true ∧ c ≠ 37 ∧ plB c = true ∧ badR c = false ∧ c ≠ 47 ∧ c.toNat ≠ 63 ∧ twoV (loL.getD (c.toNat / 16) 0) (loL.getD (c.toNat % 16) 0) = some c ∧ loL.getD (c.toNat / 16) 0 ≠ 63 ∧ loL.getD (c.toNat % 16) 0 ≠ 63 := by
  have hh := let_all c.toNat c.toNat_lt
  rw [if_pos h, UInt8.ofNat_toNat] at hh
  exact of_decide_eq_true hh
theorem take_two {L : List UInt8} {m : Nat} (h : m ≤ L.length) {u : List UInt8} {z : UInt8} (e : L.take m = u ++ [z]) : 1 ≤ m ∧ L.getD (m - 1) 0 = z := by
  have hl := congrArg List.length e
  rw [List.length_take, Nat.min_eq_left h, List.length_append] at hl
  simp at hl
  refine ⟨by omega, ?_⟩
  have : (L.take m)[m - 1]? = some z := by rw [e, show m - 1 = u.length by omega]; simp
  rw [List.getElem?_take] at this
  rw [if_pos (by omega)] at this
  rw [List.getD, this]; rfl
theorem near_no (s : ByteArray) (m : Nat) (h : m < s.size) (hn : nearP s m = false) : (∀ u, s.data.toList.take m ≠ u ++ [37]) ∧ (∀ u z, s.data.toList.take m ≠ u ++ [37, z]) := by
  have hle : m ≤ s.data.toList.length := by rw [size_list]; omega
  unfold nearP at hn
  rw [Bool.or_eq_false_iff, Bool.and_eq_false_iff, Bool.and_eq_false_iff, decide_eq_false_iff_not, decide_eq_false_iff_not, decide_eq_false_iff_not, decide_eq_false_iff_not] at hn
  obtain ⟨h1, h2⟩ := hn
  constructor
  · intro u e
    obtain ⟨a, b⟩ := take_two hle e
    rcases h1 with h1 | h1
    · exact h1 a
    · exact h1 b
  · intro u z e
    have e' : s.data.toList.take m = (u ++ [37]) ++ [z] := by rw [e]; simp
    obtain ⟨a, _⟩ := take_two hle e'
    have hl := congrArg List.length e
    rw [List.length_take, Nat.min_eq_left hle, List.length_append] at hl
    simp at hl
    have e2 : s.data.toList.take (m - 1) = u ++ [37] := by
      have h3 : s.data.toList.take (m - 1) = (s.data.toList.take m).take (m - 1) := by rw [List.take_take, Nat.min_eq_left (by omega)]
      rw [h3, e', List.take_left' (by rw [List.length_append]; simp; omega)]
    obtain ⟨b, c⟩ := take_two (by omega) e2
    rcases h2 with h2 | h2
    · exact h2 (by omega)
    · exact h2 (by rw [show m - 2 = m - 1 - 1 by omega]; exact c)
theorem getD_at (s : ByteArray) (i : Nat) (h : i < s.size) : s.data.toList.getD i 0 = s[i] := by
  have hl : i < s.data.toList.length := by rw [size_list]; exact h
  simp only [List.getD, List.getElem?_eq_getElem hl, Option.getD_some]
  rfl
theorem at_parts (s : ByteArray) (m : Nat) (h : m < s.size) : s.data.toList = s.data.toList.take m ++ s[m] :: s.data.toList.drop (m + 1) := by
  conv => lhs; rw [← List.take_append_drop m s.data.toList, byte_at s m h]
theorem mem_take_succ {x : UInt8} {l : List UInt8} {m : Nat} (h : x ∈ l.take m) : x ∈ l.take (m + 1) := by
  rw [List.take_add_one]
  exact List.mem_append_left _ h
theorem at_slash (s : ByteArray) (m : Nat) (h : m < s.size) (hc : s[m] = 47) (ins : List UInt8) : (s.extract 0 (m + 1) ++ bo ins ++ s.extract (m + 1) s.size).data.toList = s.data.toList.take m ++ 47 :: (ins ++ s.data.toList.drop (m + 1)) := by
  have hl : m < s.data.toList.length := by rw [size_list]; exact h
  have hg : s.data.toList[m] = s[m] := rfl
  rw [ByteArray.data_append, ByteArray.data_append, Array.toList_append, Array.toList_append, ex_list, ex_list, bo_list, List.drop_zero, Nat.sub_zero, List.take_add_one, List.getElem?_eq_getElem hl, hg, hc]
  simp
  exact List.take_of_length_le (by rw [List.length_drop, size_list]; omega)
set_option maxRecDepth 100000 in
set_option maxHeartbeats 2000000 in
theorem palike_main (s : ByteArray) (m : Nat) (what : Int) (h0 : ¬ 300 < s.size) (hm : m < s.size) (p q : List UInt8) (hn : norP s.data.toList = some (p, q)) (w0 : World) (hE : Env w0) : Calls Tryd.prog 5 #[.string s, .int .i64 (m : Int), .int .i64 what] w0 (fun e w' => e = .returned (.bool true) ∧ Below w0.heap.size w0 w') := by
  have HE := hideL hE
  have HB : HidL (Below w0.heap.size w0 w0) := ⟨Below.refl _ _⟩
  have LW := hideL (fun (W : World) (h : Env W) => awake_any W h)
  clear hE
  have i0 : ¬ (300 : Int) < (s.size : Int) := by omega
  have j0 : ¬ (m : Int) < 0 := by omega
  have j1 : ¬ (s.size : Int) ≤ (m : Int) := by omega
  have LP : HidL (∀ W : World, Env W → Calls Tryd.prog 8 #[.string s] W fun e w' => e = .returned (.tuple #[.string (bo p), .string (bo q), .int .i64 0]) ∧ Below W.heap.size W w') := ⟨fun W h => by have hh := normal_any s (by omega) W h; rw [hn] at hh; exact hh⟩
  have H0 : HidL ((63 : UInt8) ∉ s.data.toList.take 0) := ⟨by simp⟩
  have HN := hideL hn
  have hsz := size_list s
  clear hn
  go_enter Tryd.func5, Tryd.ntmps5
  go_upto_block 0 with (first
    | (go_at_call 8; with_reducible refine (LP.out _ HE.out).mono ?_; rintro e wx ⟨rfl, hB⟩; replace HE := hideL (HE.out.next hB); (try replace HG := hideL (HG.out.below hB)); (try replace HT := hideL (HT.out.below hB)); (try replace HU := hideL (HU.out.below hB)); replace HB := hideL (HB.out.trans (hB.mono HB.out.size)); clear hB)
    | (go_at_call 7; with_reducible refine (LW.out _ HE.out).mono ?_; rintro e wx ⟨rfl, hB⟩; replace HE := hideL (HE.out.next hB); (try replace HG := hideL (HG.out.below hB)); (try replace HT := hideL (HT.out.below hB)); (try replace HU := hideL (HU.out.below hB)); replace HB := hideL (HB.out.trans (hB.mono HB.out.size)); clear hB))
  obtain ⟨w1, hw1⟩ : ∃ X : World, X = wx := ⟨_, rfl⟩
  rw [← hw1] at HE HB ⊢
  clear hw1
  go_cut [10] (fun s10 W' => HidL ((63 : UInt8) ∉ s.data.toList.take (m + 1)) ∧ W' = w1)
  case first =>
    clear HN LP
    go_wp2_with fail
    go_loopg [10] (m + 1) (fun g i wr => ∃ k : Nat, k + g = m + 1 ∧ i = .int .i64 k ∧ HidL ((63 : UInt8) ∉ s.data.toList.take k) ∧ wr = w1)
    case atStart => exact ⟨0, Nat.zero_add _, rfl, H0, rfl⟩
    case round =>
      obtain ⟨k, hkg, rfl, HK, hwr⟩ := hrel
      rw [hwr]
      clear hwr H0
      by_cases hkm : k ≤ m
      · have hkm' : (k : Int) ≤ (m : Int) := by omega
        have hlt : k < s.size := by omega
        have hlt' : (k : Int) < (s.size : Int) := by omega
        by_cases hc : s[k] = 63
        · have i63 : (((s[k].toNat : Nat) : Int) == 63) = true := by rw [hc]; rfl
          clear hc
          go_wp2_with (first
            | (go_at_call 7; with_reducible refine (LW.out _ HE.out).mono ?_; rintro e wx ⟨rfl, hB⟩; replace HE := hideL (HE.out.next hB); (try replace HG := hideL (HG.out.below hB)); (try replace HT := hideL (HT.out.below hB)); (try replace HU := hideL (HU.out.below hB)); replace HB := hideL (HB.out.trans (hB.mono HB.out.size)); clear hB)
            | go_region)
          all_goals go_ret
          all_goals exact ⟨rfl, HB.out⟩
        · have i63 : (((s[k].toNat : Nat) : Int) == 63) = false := beq_eq_false_iff_ne.2 (fun e => hc (UInt8.toNat_inj.1 (by rw [show (63 : UInt8).toNat = 63 from rfl]; omega)))
          have HK2 := hideL (take_not HK.out hlt hc)
          clear hc
          go_wp2_with fail
          go_roundg (m + 1 - (k + 1))
          case measure => omega
          case rel => exact ⟨k + 1, by omega, by go_num, HK2, rfl⟩
      · obtain rfl : k = m + 1 := by omega
        have hkm' : ¬ ((m + 1 : Nat) : Int) ≤ (m : Int) := by omega
        have hkm2 : ¬ ((m : Int) + 1) ≤ (m : Int) := by omega
        go_wp2_with fail
        go_meet
        case rel => exact ⟨HK, rfl⟩
  case rest =>
    obtain ⟨HK, hwc⟩ := hcut
    rw [hwc]
    clear hwc H0
    obtain ⟨L, hL⟩ : ∃ b, letN s[m].toNat = b := ⟨_, rfl⟩
    have HL := hideL hL
    go_upto_region 13 with fail
    go_cut [13] (fun s13 W' => s13 = .bool L ∧ W' = w1)
    case first =>
      have hn256 := s[m].toNat_lt
      clear HN LP HK HL
      generalize s[m].toNat = n at *
      have C : n < 48 ∨ (48 ≤ n ∧ n ≤ 57) ∨ (57 < n ∧ n < 97) ∨ (97 ≤ n ∧ n ≤ 122) ∨ 122 < n := by omega
      rcases C with h | h | h | h | h
      · have hl : L = false := by rw [← hL]; exact decide_eq_false (by omega)
        have a48 : ¬ (48 : Int) ≤ (n : Int) := by omega
        have a97 : ¬ (97 : Int) ≤ (n : Int) := by omega
        have b57 : (n : Int) ≤ 57 := by omega
        have b122 : (n : Int) ≤ 122 := by omega
        have HL2 := hideL hl
        clear hl hL h
        go_wp2_with fail
        go_meet
        case rel => exact ⟨by rw [HL2.out], rfl⟩
      · have hl : L = true := by rw [← hL]; exact decide_eq_true (by omega)
        have a48 : (48 : Int) ≤ (n : Int) := by omega
        have a97 : ¬ (97 : Int) ≤ (n : Int) := by omega
        have b57 : (n : Int) ≤ 57 := by omega
        have b122 : (n : Int) ≤ 122 := by omega
        have HL2 := hideL hl
        clear hl hL h
        go_wp2_with fail
        go_meet
        case rel => exact ⟨by rw [HL2.out], rfl⟩
      · have hl : L = false := by rw [← hL]; exact decide_eq_false (by omega)
        have a48 : (48 : Int) ≤ (n : Int) := by omega
        have a97 : ¬ (97 : Int) ≤ (n : Int) := by omega
        have b57 : ¬ (n : Int) ≤ 57 := by omega
        have b122 : (n : Int) ≤ 122 := by omega
        have HL2 := hideL hl
        clear hl hL h
        go_wp2_with fail
        go_meet
        case rel => exact ⟨by rw [HL2.out], rfl⟩
      · have hl : L = true := by rw [← hL]; exact decide_eq_true (by omega)
        have a48 : (48 : Int) ≤ (n : Int) := by omega
        have a97 : (97 : Int) ≤ (n : Int) := by omega
        have b57 : ¬ (n : Int) ≤ 57 := by omega
        have b122 : (n : Int) ≤ 122 := by omega
        have HL2 := hideL hl
        clear hl hL h
        go_wp2_with fail
        go_meet
        case rel => exact ⟨by rw [HL2.out], rfl⟩
      · have hl : L = false := by rw [← hL]; exact decide_eq_false (by omega)
        have a48 : (48 : Int) ≤ (n : Int) := by omega
        have a97 : (97 : Int) ≤ (n : Int) := by omega
        have b57 : ¬ (n : Int) ≤ 57 := by omega
        have b122 : ¬ (n : Int) ≤ 122 := by omega
        have HL2 := hideL hl
        clear hl hL h
        go_wp2_with fail
        go_meet
        case rel => exact ⟨by rw [HL2.out], rfl⟩
    case rest =>
      obtain ⟨rfl, hwc⟩ := hcut
      rw [hwc]
      clear hwc hL
      obtain ⟨N, hN⟩ : ∃ b, nearP s m = b := ⟨_, rfl⟩
      have HNP := hideL hN
      go_upto_region 14 with fail
      go_cut [14] (fun s14 W' => s14 = .bool N ∧ W' = w1)
      case first =>
        clear HN LP HK HL
        by_cases h1 : m = 0
        · have HNV : HidL (N = false) := ⟨by rw [← hN, h1]; rfl⟩
          have a1 : ¬ (1 : Int) ≤ (m : Int) := by omega
          have a2 : ¬ (2 : Int) ≤ (m : Int) := by omega
          clear hN HNP h1
          go_wp2_with fail
          go_meet
          case rel => exact ⟨by rw [HNV.out], rfl⟩
        have a1 : (1 : Int) ≤ (m : Int) := by omega
        have b1 : (0 : Int) ≤ (m : Int) - 1 := by omega
        have b2 : (m : Int) - 1 < (s.size : Int) := by omega
        have b3 : ((m : Int) - 1).toNat = m - 1 := by omega
        have b4 : m - 1 < s.size := by omega
        have g1 := getD_at s (m - 1) b4
        by_cases e1 : s[m - 1] = 37
        · have HNV : HidL (N = true) := ⟨by rw [← hN]; unfold nearP; rw [g1, e1, decide_eq_true (show 1 ≤ m by omega)]; rfl⟩
          have i1 : (((s[m - 1].toNat : Nat) : Int) == 37) = true := by rw [e1]; rfl
          clear hN HNP g1 e1
          go_wp2_with fail
          go_meet
          case rel => exact ⟨by rw [HNV.out], rfl⟩
        have i1 : (((s[m - 1].toNat : Nat) : Int) == 37) = false := beq_eq_false_iff_ne.2 (fun e => e1 (UInt8.toNat_inj.1 (by rw [show (37 : UInt8).toNat = 37 from rfl]; omega)))
        by_cases h2 : m = 1
        · have HNV : HidL (N = false) := ⟨by rw [← hN]; unfold nearP; rw [g1, decide_eq_false e1, decide_eq_false (show ¬ 2 ≤ m by omega), Bool.and_false]; rfl⟩
          have a2 : ¬ (2 : Int) ≤ (m : Int) := by omega
          clear hN HNP g1 e1 h2
          go_wp2_with fail
          go_meet
          case rel => exact ⟨by rw [HNV.out], rfl⟩
        have a2 : (2 : Int) ≤ (m : Int) := by omega
        have c1 : (0 : Int) ≤ (m : Int) - 2 := by omega
        have c2 : (m : Int) - 2 < (s.size : Int) := by omega
        have c3 : ((m : Int) - 2).toNat = m - 2 := by omega
        have c4 : m - 2 < s.size := by omega
        have g2 := getD_at s (m - 2) c4
        by_cases e2 : s[m - 2] = 37
        · have HNV : HidL (N = true) := ⟨by rw [← hN]; unfold nearP; rw [g2, e2, decide_eq_true (show 2 ≤ m by omega), Bool.true_and, decide_eq_true rfl, Bool.or_true]⟩
          have i2 : (((s[m - 2].toNat : Nat) : Int) == 37) = true := by rw [e2]; rfl
          clear hN HNP g1 e1 g2 e2
          go_wp2_with fail
          go_meet
          case rel => exact ⟨by rw [HNV.out], rfl⟩
        · have HNV : HidL (N = false) := ⟨by rw [← hN]; unfold nearP; rw [g1, g2, decide_eq_false e1, decide_eq_false e2, Bool.and_false, Bool.and_false]; rfl⟩
          have i2 : (((s[m - 2].toNat : Nat) : Int) == 37) = false := beq_eq_false_iff_ne.2 (fun e => e2 (UInt8.toNat_inj.1 (by rw [show (37 : UInt8).toNat = 37 from rfl]; omega)))
          clear hN HNP g1 e1 g2 e2
          go_wp2_with fail
          go_meet
          case rel => exact ⟨by rw [HNV.out], rfl⟩
      case rest =>
        obtain ⟨rfl, hwc⟩ := hcut
        rw [hwc]
        clear hwc hN
        go_upto_block 2 with fail
        go_cut [11] (fun s11 W' => (∃ t : ByteArray, s11 = .string t ∧ HidL (norP t.data.toList = some (p, q) ∧ t.size ≤ 1000)) ∧ HidL (Below w1.heap.size w1 W'))
        case first =>
          have HW : HidL (Below w1.heap.size w1 w1) := ⟨Below.refl _ _⟩
          have HWd : HidL (Below w1.heap.size w1 w1.drew) := ⟨(Below.refl _ _).drew⟩
          clear LP HB HE
          obtain ⟨X, hX⟩ : ∃ X, s.extract 0 (m + 1) = X := ⟨_, rfl⟩
          obtain ⟨Y, hY⟩ : ∃ Y, s.extract (m + 1) s.size = Y := ⟨_, rfl⟩
          have hXs : X.size ≤ 300 := by rw [← hX, ← size_list, ex_list, List.length_take, List.length_drop]; omega
          have hYs : Y.size ≤ 300 := by rw [← hY, ← size_list, ex_list, List.length_take, List.length_drop]; omega
          have m1 : ((m : Int) + 1) ≤ (s.size : Int) := by omega
          have m2 : ((m : Int) + 1).toNat = m + 1 := by omega
          have m3 : (0 : Int) ≤ (m : Int) + 1 := by omega
          by_cases hc : s[m] = 47
          · have hsp := fun ins : List UInt8 => at_slash s m hm hc ins
            rw [hX, hY] at hsp
            have hLL := at_parts s m hm
            rw [hc] at hLL
            have hnn := HN.out
            rw [hLL] at hnn
            have h63 : (63 : UInt8) ∉ s.data.toList.take m := fun h => HK.out (mem_take_succ h)
            have i47 : (((s[m].toNat : Nat) : Int) == 47) = true := by rw [hc]; rfl
            have hlen : ∀ ins : List UInt8, ins.length ≤ 8 → (s.data.toList.take m ++ 47 :: (ins ++ s.data.toList.drop (m + 1))).length ≤ 512 := fun ins h => by
              rw [List.length_append, List.length_cons, List.length_append, List.length_take, List.length_drop]; omega
            have T1 := hideL (show norP (X ++ bo [47] ++ Y).data.toList = some (p, q) by rw [hsp]; exact alike_slash hnn h63 (hlen _ (by decide)))
            have T2 := hideL (show norP (X ++ bo [46, 47] ++ Y).data.toList = some (p, q) by rw [hsp]; exact alike_dot hnn h63 (hlen _ (by decide)))
            have T3 := hideL (show norP (X ++ bo [120, 37, 50, 69, 47, 46, 46, 47] ++ Y).data.toList = some (p, q) by rw [hsp]; exact alike_up hnn h63 (hlen _ (by decide)))
            have S1 := hideL (show (X ++ bo [47] ++ Y).size ≤ 1000 by rw [ByteArray.size_append, ByteArray.size_append]; show X.size + 1 + Y.size ≤ _; omega)
            have S2 := hideL (show (X ++ bo [46, 47] ++ Y).size ≤ 1000 by rw [ByteArray.size_append, ByteArray.size_append]; show X.size + 2 + Y.size ≤ _; omega)
            have S3 := hideL (show (X ++ bo [120, 37, 50, 69, 47, 46, 46, 47] ++ Y).size ≤ 1000 by rw [ByteArray.size_append, ByteArray.size_append]; show X.size + 8 + Y.size ≤ _; omega)
            have z1 : ¬ 9223372036854775807 < X.size + 1 := by omega
            have z2 : ¬ 9223372036854775807 < X.size + 1 + Y.size := by omega
            have z3 : ¬ 9223372036854775807 < X.size + 2 := by omega
            have z4 : ¬ 9223372036854775807 < X.size + 2 + Y.size := by omega
            have z5 : ¬ 9223372036854775807 < X.size + 8 := by omega
            have z6 : ¬ 9223372036854775807 < X.size + 8 + Y.size := by omega
            obtain ⟨g, hg⟩ : ∃ g, bits .and .i64 what 3 = g := ⟨_, rfl⟩
            clear hsp hLL hnn h63 hlen hc HN HK
            by_cases g0 : g = 0
            · have k0 : ((bits .and .i64 what 3 : Int) == 0) = true := by rw [hg, g0]; rfl
              clear g0 hg
              go_wp2_with go_region
              all_goals go_meet
              all_goals exact ⟨⟨_, rfl, ⟨T1.out, S1.out⟩⟩, HWd⟩
            have k0 : ((bits .and .i64 what 3 : Int) == 0) = false := by rw [hg]; exact beq_eq_false_iff_ne.2 g0
            by_cases g1 : g = 1
            · have k1 : ((bits .and .i64 what 3 : Int) == 1) = true := by rw [hg, g1]; rfl
              clear g0 g1 hg
              go_wp2_with go_region
              all_goals go_meet
              all_goals exact ⟨⟨_, rfl, ⟨T2.out, S2.out⟩⟩, HWd⟩
            · have k1 : ((bits .and .i64 what 3 : Int) == 1) = false := by rw [hg]; exact beq_eq_false_iff_ne.2 g1
              clear g0 g1 hg
              go_wp2_with go_region
              all_goals go_meet
              all_goals exact ⟨⟨_, rfl, ⟨T3.out, S3.out⟩⟩, HWd⟩
          · have i47 : (((s[m].toNat : Nat) : Int) == 47) = false := beq_eq_false_iff_ne.2 (fun e => hc (UInt8.toNat_inj.1 (by rw [show (47 : UInt8).toNat = 47 from rfl]; omega)))
            have TS : HidL (norP s.data.toList = some (p, q) ∧ s.size ≤ 1000) := ⟨HN.out, by omega⟩
            cases L
            · clear HN HK HL hc HNP
              go_wp2_with fail
              all_goals go_meet
              all_goals exact ⟨⟨_, rfl, TS⟩, HW⟩
            cases N
            · obtain ⟨X0, hX0⟩ : ∃ X, s.extract 0 m = X := ⟨_, rfl⟩
              have hX0s : X0.size ≤ 300 := by rw [← hX0, ← size_list, ex_list, List.length_take, List.length_drop]; omega
              have hXe : X0.data.toList = s.data.toList.take m := by rw [← hX0, ex_list, List.drop_zero, Nat.sub_zero]
              have hYe : Y.data.toList = s.data.toList.drop (m + 1) := by rw [← hY, ex_list, List.take_of_length_le (by rw [List.length_drop, size_list]; omega)]
              have hLL := at_parts s m hm
              have hnn := HN.out
              rw [hLL] at hnn
              have h63 : (63 : UInt8) ∉ s.data.toList.take m := fun h => HK.out (mem_take_succ h)
              obtain ⟨f1, f2, f3, f4, f5, f6, f7, f8, f9⟩ := let_facts s[m] HL.out
              have hn256 := s[m].toNat_lt
              obtain ⟨x, hx⟩ : ∃ x, s[m].toNat / 16 = x := ⟨_, rfl⟩
              obtain ⟨y, hy⟩ : ∃ y, s[m].toNat % 16 = y := ⟨_, rfl⟩
              rw [hx, hy] at f7
              rw [hx] at f8
              rw [hy] at f9
              have hx16 : x < 16 := by omega
              have hy16 : y < 16 := by omega
              have hnear := near_no s m hm HNP.out
              have T4 := hideL (show norP (X0 ++ ⟨#[37]⟩ ++ bo [loL.getD x 0] ++ bo [loL.getD y 0] ++ Y).data.toList = some (p, q) by
                have e : (X0 ++ ⟨#[37]⟩ ++ bo [loL.getD x 0] ++ bo [loL.getD y 0] ++ Y).data.toList = s.data.toList.take m ++ 37 :: loL.getD x 0 :: loL.getD y 0 :: s.data.toList.drop (m + 1) := by
                  rw [ByteArray.data_append, ByteArray.data_append, ByteArray.data_append, ByteArray.data_append, Array.toList_append, Array.toList_append, Array.toList_append, Array.toList_append, hXe, hYe, bo_list, bo_list]
                  simp
                rw [e]
                exact alike_let hnn h63 f6 hnear.1 hnear.2 f1 f2 f3 f4 f7 f8 f9 f5 (by rw [List.length_append, List.length_cons, List.length_cons, List.length_cons, List.length_take, List.length_drop]; omega))
              have S4 := hideL (show (X0 ++ ⟨#[37]⟩ ++ bo [loL.getD x 0] ++ bo [loL.getD y 0] ++ Y).size ≤ 1000 by
                rw [ByteArray.size_append, ByteArray.size_append, ByteArray.size_append, ByteArray.size_append]; show X0.size + 1 + 1 + 1 + Y.size ≤ _; omega)
              have n1 : m ≤ s.size := by omega
              have wk : IntKind.i64.wrap ((m : Int) + 1) = (m : Int) + 1 := by rw [IntKind.wrap_i64]; omega
              have n2 : m + 1 ≤ s.size := by omega
              have d1 : ((s[m].toNat : Nat) : Int) / 16 = (x : Int) := by omega
              have d3 : bits .and .u8 ((s[m].toNat : Nat) : Int) 15 = (y : Int) := by rw [bits_low4 _ hn256]; omega
              have w2 : IntKind.u8.wrap ((x : Int) + 1) = (x : Int) + 1 := by rw [IntKind.wrap_u8]; omega
              have w3 : IntKind.u8.wrap ((y : Int) + 1) = (y : Int) + 1 := by rw [IntKind.wrap_u8]; omega
              have v3 : (x : Int) + 1 ≤ 16 := by omega
              have v4 : (y : Int) + 1 ≤ 16 := by omega
              have v5 : ((x : Int) + 1).toNat = x + 1 := by omega
              have v6 : ((y : Int) + 1).toNat = y + 1 := by omega
              have v7 : (x : Int) ≤ (x : Int) + 1 := by omega
              have v8 : (y : Int) ≤ (y : Int) + 1 := by omega
              have x1 : (⟨#[48, 49, 50, 51, 52, 53, 54, 55, 56, 57, 97, 98, 99, 100, 101, 102]⟩ : ByteArray).extract x (x + 1) = bo [loL.getD x 0] := lo_cut x hx16
              have y1 : (⟨#[48, 49, 50, 51, 52, 53, 54, 55, 56, 57, 97, 98, 99, 100, 101, 102]⟩ : ByteArray).extract y (y + 1) = bo [loL.getD y 0] := lo_cut y hy16
              have x2 : (bo [loL.getD x 0]).size = 1 := rfl
              have y2 : (bo [loL.getD y 0]).size = 1 := rfl
              have z1 : ¬ 9223372036854775807 < X0.size + 1 := by omega
              have z2 : ¬ 9223372036854775807 < X0.size + 1 + 1 := by omega
              have z3 : ¬ 9223372036854775807 < X0.size + 1 + 1 + 1 := by omega
              have z4 : ¬ 9223372036854775807 < X0.size + 1 + 1 + 1 + Y.size := by omega
              clear hXe hYe hLL hnn h63 f1 f2 f3 f4 f5 f6 f7 f8 f9 hx hy hnear HN HK HL hc HNP TS
              generalize loL.getD x 0 = dx at *
              generalize loL.getD y 0 = dy at *
              generalize s[m].toNat = n at *
              go_upto_region 22 with fail
              refine wp_region_held_drew (S := fun w' => Below w1.heap.size w1 w') (by kernel_rfl) ((Below.refl w1.heap.size w1).drew) (fun hHeld => ?_)
              refine wpAnyH_take (i := 0) (oi := { dst := some 144, op := Op.move (Operand.tmp 0), type := 9, pos := "law.go:129", after := #[], guard := none }) (v := ?_) rfl (by kernel_rfl) (by kernel_rfl) (by kernel_rfl) (fun _ _ _ h => h) (Or.inl ⟨by rfl, ?_⟩) hHeld ?_
              rotate_left
              · intro w hSw; (try dsimp only at hSw); go_simp; first | done | with_reducible rfl
              try simp only [Act.put, List.setIfInBounds_toArray, List.set_cons_zero, List.set_cons_succ]
              refine wpAnyH_take (i := 1) (oi := { dst := some 145, op := Op.move (Operand.tmp 1), type := 3, pos := "law.go:129", after := #[], guard := none }) (v := ?_) rfl (by kernel_rfl) (by kernel_rfl) (by kernel_rfl) (fun _ _ _ h => h) (Or.inl ⟨by rfl, ?_⟩) hHeld ?_
              rotate_left
              · intro w hSw; (try dsimp only at hSw); go_simp; first | done | with_reducible rfl
              try simp only [Act.put, List.setIfInBounds_toArray, List.set_cons_zero, List.set_cons_succ]
              refine wpAnyH_take (i := 2) (oi := { dst := some 146, op := Op.slice 9 (Operand.tmp 144) none (some (Operand.tmp 145)) none, type := 9, pos := "law.go:129", after := #[{ on := 0, ground := Ground.data }, { on := 1, ground := Ground.data }], guard := none }) (v := ?_) rfl (by kernel_rfl) (by kernel_rfl) (by kernel_rfl) (fun _ _ _ h => h) (Or.inl ⟨by rfl, ?_⟩) hHeld ?_
              rotate_left
              · intro w hSw; (try dsimp only at hSw); go_simp; first | done | with_reducible rfl
              try simp only [Act.put, List.setIfInBounds_toArray, List.set_cons_zero, List.set_cons_succ]
              refine wpAnyH_take (i := 3) (oi := { dst := some 147, op := Op.binOp BinOp.add 9 (Operand.tmp 146) (Operand.const (Value.string { data := #[37] })) 9, type := 9, pos := "law.go:129", after := #[{ on := 2, ground := Ground.data }], guard := none }) (v := ?_) rfl (by kernel_rfl) (by kernel_rfl) (by kernel_rfl) (fun _ _ _ h => h) (Or.inl ⟨by rfl, ?_⟩) hHeld ?_
              rotate_left
              · intro w hSw; (try dsimp only at hSw); go_simp; first | done | with_reducible rfl
              try simp only [Act.put, List.setIfInBounds_toArray, List.set_cons_zero, List.set_cons_succ]
              refine wpAnyH_take (i := 4) (oi := { dst := some 148, op := Op.move (Operand.tmp 12), type := 5, pos := "law.go:129", after := #[], guard := none }) (v := ?_) rfl (by kernel_rfl) (by kernel_rfl) (by kernel_rfl) (fun _ _ _ h => h) (Or.inl ⟨by rfl, ?_⟩) hHeld ?_
              rotate_left
              · intro w hSw; (try dsimp only at hSw); go_simp; first | done | with_reducible rfl
              try simp only [Act.put, List.setIfInBounds_toArray, List.set_cons_zero, List.set_cons_succ]
              refine wpAnyH_take (i := 5) (oi := { dst := some 149, op := Op.binOp BinOp.shr 5 (Operand.tmp 148) (Operand.const (Value.int IntKind.u64 4)) 41, type := 5, pos := "law.go:129", after := #[{ on := 4, ground := Ground.data }], guard := none }) (v := ?_) rfl (by kernel_rfl) (by kernel_rfl) (by kernel_rfl) (fun _ _ _ h => h) (Or.inl ⟨by rfl, ?_⟩) hHeld ?_
              rotate_left
              · intro w hSw; (try dsimp only at hSw); go_simp; first | done | with_reducible rfl
              try simp only [Act.put, List.setIfInBounds_toArray, List.set_cons_zero, List.set_cons_succ]
              refine wpAnyH_take (i := 6) (oi := { dst := some 150, op := Op.move (Operand.tmp 12), type := 5, pos := "law.go:129", after := #[], guard := none }) (v := ?_) rfl (by kernel_rfl) (by kernel_rfl) (by kernel_rfl) (fun _ _ _ h => h) (Or.inl ⟨by rfl, ?_⟩) hHeld ?_
              rotate_left
              · intro w hSw; (try dsimp only at hSw); go_simp; first | done | with_reducible rfl
              try simp only [Act.put, List.setIfInBounds_toArray, List.set_cons_zero, List.set_cons_succ]
              refine wpAnyH_take (i := 7) (oi := { dst := some 151, op := Op.binOp BinOp.shr 5 (Operand.tmp 150) (Operand.const (Value.int IntKind.u64 4)) 41, type := 5, pos := "law.go:129", after := #[{ on := 6, ground := Ground.data }], guard := none }) (v := ?_) rfl (by kernel_rfl) (by kernel_rfl) (by kernel_rfl) (fun _ _ _ h => h) (Or.inl ⟨by rfl, ?_⟩) hHeld ?_
              rotate_left
              · intro w hSw; (try dsimp only at hSw); go_simp; first | done | with_reducible rfl
              try simp only [Act.put, List.setIfInBounds_toArray, List.set_cons_zero, List.set_cons_succ]
              refine wpAnyH_take (i := 8) (oi := { dst := some 152, op := Op.binOp BinOp.add 5 (Operand.tmp 151) (Operand.const (Value.int IntKind.u8 1)) 5, type := 5, pos := "law.go:129", after := #[{ on := 7, ground := Ground.data }], guard := none }) (v := ?_) rfl (by kernel_rfl) (by kernel_rfl) (by kernel_rfl) (fun _ _ _ h => h) (Or.inl ⟨by rfl, ?_⟩) hHeld ?_
              rotate_left
              · intro w hSw; (try dsimp only at hSw); go_simp; first | done | with_reducible rfl
              try simp only [Act.put, List.setIfInBounds_toArray, List.set_cons_zero, List.set_cons_succ]
              refine wpAnyH_take (i := 9) (oi := { dst := some 153, op := Op.slice 9 (Operand.const (Value.string { data := #[48, 49, 50, 51, 52, 53, 54, 55, 56, 57, 97, 98, 99, 100, 101, 102] })) (some (Operand.tmp 149)) (some (Operand.tmp 152)) none, type := 9, pos := "law.go:129", after := #[{ on := 5, ground := Ground.data }, { on := 8, ground := Ground.data }], guard := none }) (v := ?_) rfl (by kernel_rfl) (by kernel_rfl) (by kernel_rfl) (fun _ _ _ h => h) (Or.inl ⟨by rfl, ?_⟩) hHeld ?_
              rotate_left
              · intro w hSw; (try dsimp only at hSw); go_simp; first | done | with_reducible rfl
              try simp only [Act.put, List.setIfInBounds_toArray, List.set_cons_zero, List.set_cons_succ]
              refine wpAnyH_take (i := 10) (oi := { dst := some 154, op := Op.binOp BinOp.add 9 (Operand.tmp 147) (Operand.tmp 153) 9, type := 9, pos := "law.go:129", after := #[{ on := 3, ground := Ground.data }, { on := 9, ground := Ground.data }], guard := none }) (v := ?_) rfl (by kernel_rfl) (by kernel_rfl) (by kernel_rfl) (fun _ _ _ h => h) (Or.inl ⟨by rfl, ?_⟩) hHeld ?_
              rotate_left
              · intro w hSw; (try dsimp only at hSw); go_simp; first | done | with_reducible rfl
              try simp only [Act.put, List.setIfInBounds_toArray, List.set_cons_zero, List.set_cons_succ]
              refine wpAnyH_take (i := 11) (oi := { dst := some 155, op := Op.move (Operand.tmp 12), type := 5, pos := "law.go:129", after := #[], guard := none }) (v := ?_) rfl (by kernel_rfl) (by kernel_rfl) (by kernel_rfl) (fun _ _ _ h => h) (Or.inl ⟨by rfl, ?_⟩) hHeld ?_
              rotate_left
              · intro w hSw; (try dsimp only at hSw); go_simp; first | done | with_reducible rfl
              try simp only [Act.put, List.setIfInBounds_toArray, List.set_cons_zero, List.set_cons_succ]
              refine wpAnyH_take (i := 12) (oi := { dst := some 156, op := Op.binOp BinOp.and 5 (Operand.tmp 155) (Operand.const (Value.int IntKind.u8 15)) 5, type := 5, pos := "law.go:129", after := #[{ on := 11, ground := Ground.data }], guard := none }) (v := ?_) rfl (by kernel_rfl) (by kernel_rfl) (by kernel_rfl) (fun _ _ _ h => h) (Or.inl ⟨by rfl, ?_⟩) hHeld ?_
              rotate_left
              · intro w hSw; (try dsimp only at hSw); go_simp; first | done | with_reducible rfl
              try simp only [Act.put, List.setIfInBounds_toArray, List.set_cons_zero, List.set_cons_succ]
              refine wpAnyH_take (i := 13) (oi := { dst := some 157, op := Op.move (Operand.tmp 12), type := 5, pos := "law.go:129", after := #[], guard := none }) (v := ?_) rfl (by kernel_rfl) (by kernel_rfl) (by kernel_rfl) (fun _ _ _ h => h) (Or.inl ⟨by rfl, ?_⟩) hHeld ?_
              rotate_left
              · intro w hSw; (try dsimp only at hSw); go_simp; first | done | with_reducible rfl
              try simp only [Act.put, List.setIfInBounds_toArray, List.set_cons_zero, List.set_cons_succ]
              refine wpAnyH_take (i := 14) (oi := { dst := some 158, op := Op.binOp BinOp.and 5 (Operand.tmp 157) (Operand.const (Value.int IntKind.u8 15)) 5, type := 5, pos := "law.go:129", after := #[{ on := 13, ground := Ground.data }], guard := none }) (v := ?_) rfl (by kernel_rfl) (by kernel_rfl) (by kernel_rfl) (fun _ _ _ h => h) (Or.inl ⟨by rfl, ?_⟩) hHeld ?_
              rotate_left
              · intro w hSw; (try dsimp only at hSw); go_simp; first | done | with_reducible rfl
              try simp only [Act.put, List.setIfInBounds_toArray, List.set_cons_zero, List.set_cons_succ]
              refine wpAnyH_take (i := 15) (oi := { dst := some 159, op := Op.binOp BinOp.add 5 (Operand.tmp 158) (Operand.const (Value.int IntKind.u8 1)) 5, type := 5, pos := "law.go:129", after := #[{ on := 14, ground := Ground.data }], guard := none }) (v := ?_) rfl (by kernel_rfl) (by kernel_rfl) (by kernel_rfl) (fun _ _ _ h => h) (Or.inl ⟨by rfl, ?_⟩) hHeld ?_
              rotate_left
              · intro w hSw; (try dsimp only at hSw); go_simp; first | done | with_reducible rfl
              try simp only [Act.put, List.setIfInBounds_toArray, List.set_cons_zero, List.set_cons_succ]
              refine wpAnyH_take (i := 16) (oi := { dst := some 160, op := Op.slice 9 (Operand.const (Value.string { data := #[48, 49, 50, 51, 52, 53, 54, 55, 56, 57, 97, 98, 99, 100, 101, 102] })) (some (Operand.tmp 156)) (some (Operand.tmp 159)) none, type := 9, pos := "law.go:129", after := #[{ on := 12, ground := Ground.data }, { on := 15, ground := Ground.data }], guard := none }) (v := ?_) rfl (by kernel_rfl) (by kernel_rfl) (by kernel_rfl) (fun _ _ _ h => h) (Or.inl ⟨by rfl, ?_⟩) hHeld ?_
              rotate_left
              · intro w hSw; (try dsimp only at hSw); go_simp; first | done | with_reducible rfl
              try simp only [Act.put, List.setIfInBounds_toArray, List.set_cons_zero, List.set_cons_succ]
              refine wpAnyH_take (i := 17) (oi := { dst := some 161, op := Op.binOp BinOp.add 9 (Operand.tmp 154) (Operand.tmp 160) 9, type := 9, pos := "law.go:129", after := #[{ on := 10, ground := Ground.data }, { on := 16, ground := Ground.data }], guard := none }) (v := ?_) rfl (by kernel_rfl) (by kernel_rfl) (by kernel_rfl) (fun _ _ _ h => h) (Or.inl ⟨by rfl, ?_⟩) hHeld ?_
              rotate_left
              · intro w hSw; (try dsimp only at hSw); go_simp; first | done | with_reducible rfl
              try simp only [Act.put, List.setIfInBounds_toArray, List.set_cons_zero, List.set_cons_succ]
              refine wpAnyH_take (i := 18) (oi := { dst := some 162, op := Op.move (Operand.tmp 0), type := 9, pos := "law.go:129", after := #[], guard := none }) (v := ?_) rfl (by kernel_rfl) (by kernel_rfl) (by kernel_rfl) (fun _ _ _ h => h) (Or.inl ⟨by rfl, ?_⟩) hHeld ?_
              rotate_left
              · intro w hSw; (try dsimp only at hSw); go_simp; first | done | with_reducible rfl
              try simp only [Act.put, List.setIfInBounds_toArray, List.set_cons_zero, List.set_cons_succ]
              refine wpAnyH_take (i := 19) (oi := { dst := some 163, op := Op.move (Operand.tmp 1), type := 3, pos := "law.go:129", after := #[], guard := none }) (v := ?_) rfl (by kernel_rfl) (by kernel_rfl) (by kernel_rfl) (fun _ _ _ h => h) (Or.inl ⟨by rfl, ?_⟩) hHeld ?_
              rotate_left
              · intro w hSw; (try dsimp only at hSw); go_simp; first | done | with_reducible rfl
              try simp only [Act.put, List.setIfInBounds_toArray, List.set_cons_zero, List.set_cons_succ]
              refine wpAnyH_take (i := 20) (oi := { dst := some 164, op := Op.binOp BinOp.add 3 (Operand.tmp 163) (Operand.const (Value.int IntKind.i64 1)) 3, type := 3, pos := "law.go:129", after := #[{ on := 19, ground := Ground.data }], guard := none }) (v := ?_) rfl (by kernel_rfl) (by kernel_rfl) (by kernel_rfl) (fun _ _ _ h => h) (Or.inl ⟨by rfl, ?_⟩) hHeld ?_
              rotate_left
              · intro w hSw; (try dsimp only at hSw); go_simp; first | done | with_reducible rfl
              try simp only [Act.put, List.setIfInBounds_toArray, List.set_cons_zero, List.set_cons_succ]
              refine wpAnyH_take (i := 21) (oi := { dst := some 165, op := Op.slice 9 (Operand.tmp 162) (some (Operand.tmp 164)) none none, type := 9, pos := "law.go:129", after := #[{ on := 18, ground := Ground.data }, { on := 20, ground := Ground.data }], guard := none }) (v := ?_) rfl (by kernel_rfl) (by kernel_rfl) (by kernel_rfl) (fun _ _ _ h => h) (Or.inl ⟨by rfl, ?_⟩) hHeld ?_
              rotate_left
              · intro w hSw; (try dsimp only at hSw); go_simp; first | done | with_reducible rfl
              try simp only [Act.put, List.setIfInBounds_toArray, List.set_cons_zero, List.set_cons_succ]
              refine wpAnyH_take (i := 22) (oi := { dst := some 166, op := Op.binOp BinOp.add 9 (Operand.tmp 161) (Operand.tmp 165) 9, type := 9, pos := "law.go:129", after := #[{ on := 17, ground := Ground.data }, { on := 21, ground := Ground.data }], guard := none }) (v := ?_) rfl (by kernel_rfl) (by kernel_rfl) (by kernel_rfl) (fun _ _ _ h => h) (Or.inl ⟨by rfl, ?_⟩) hHeld ?_
              rotate_left
              · intro w hSw; (try dsimp only at hSw); go_simp; first | done | with_reducible rfl
              try simp only [Act.put, List.setIfInBounds_toArray, List.set_cons_zero, List.set_cons_succ]
              refine wpAnyH_take (i := 23) (oi := { dst := some 11, op := Op.assign (Operand.tmp 166), type := 9, pos := "law.go:129", after := #[{ on := 22, ground := Ground.data }, { on := 0, ground := Ground.phase }, { on := 1, ground := Ground.phase }, { on := 2, ground := Ground.phase }, { on := 3, ground := Ground.phase }, { on := 4, ground := Ground.phase }, { on := 5, ground := Ground.phase }, { on := 6, ground := Ground.phase }, { on := 7, ground := Ground.phase }, { on := 8, ground := Ground.phase }, { on := 9, ground := Ground.phase }, { on := 10, ground := Ground.phase }, { on := 11, ground := Ground.phase }, { on := 12, ground := Ground.phase }, { on := 13, ground := Ground.phase }, { on := 14, ground := Ground.phase }, { on := 15, ground := Ground.phase }, { on := 16, ground := Ground.phase }, { on := 17, ground := Ground.phase }, { on := 18, ground := Ground.phase }, { on := 19, ground := Ground.phase }, { on := 20, ground := Ground.phase }, { on := 21, ground := Ground.phase }, { on := 22, ground := Ground.phase }], guard := none }) (v := ?_) rfl (by kernel_rfl) (by kernel_rfl) (by kernel_rfl) (fun _ _ _ h => h) (Or.inl ⟨by rfl, ?_⟩) hHeld ?_
              rotate_left
              · intro w hSw; (try dsimp only at hSw); go_simp; first | done | with_reducible rfl
              try simp only [Act.put, List.setIfInBounds_toArray, List.set_cons_zero, List.set_cons_succ]
              refine wpAnyH_done (by kernel_rfl) ?_ _
              clear hHeld
              (try go_wp2_with fail)
              all_goals go_meet
              all_goals exact ⟨⟨_, rfl, ⟨T4.out, S4.out⟩⟩, HWd⟩
            · clear HN HK HL hc HNP
              go_wp2_with fail
              all_goals go_meet
              all_goals exact ⟨⟨_, rfl, TS⟩, HW⟩
        case rest =>
          obtain ⟨⟨t, rfl, HT⟩, HX⟩ := hcut
          obtain ⟨w5, hw5⟩ : ∃ X : World, X = wc := ⟨_, rfl⟩
          rw [← hw5] at HX ⊢
          clear hw5
          have LQ : HidL (∀ W : World, Env W → Calls Tryd.prog 8 #[.string t] W fun e w' => e = .returned (.tuple #[.string (bo p), .string (bo q), .int .i64 0]) ∧ Below W.heap.size W w') := ⟨fun W h => by have hh := normal_any t (by have := HT.out.2; omega) W h; rw [HT.out.1] at hh; exact hh⟩
          replace HE := hideL (HE.out.next HX.out)
          replace HB := hideL (HB.out.trans (HX.out.mono HB.out.size))
          clear HX HT LP HN HK HL HNP
          go_wp2_with (first
            | (go_at_call 8; with_reducible refine (LQ.out _ HE.out).mono ?_; rintro e wx ⟨rfl, hB⟩; replace HE := hideL (HE.out.next hB); (try replace HG := hideL (HG.out.below hB)); (try replace HT := hideL (HT.out.below hB)); (try replace HU := hideL (HU.out.below hB)); replace HB := hideL (HB.out.trans (hB.mono HB.out.size)); clear hB)
            | (go_at_call 7; with_reducible refine (LW.out _ HE.out).mono ?_; rintro e wx ⟨rfl, hB⟩; replace HE := hideL (HE.out.next hB); (try replace HG := hideL (HG.out.below hB)); (try replace HT := hideL (HT.out.below hB)); (try replace HU := hideL (HU.out.below hB)); replace HB := hideL (HB.out.trans (hB.mono HB.out.size)); clear hB)
            | go_region)
          all_goals go_ret
          all_goals exact ⟨rfl, HB.out⟩
end Go.Proofs.YthbgnkkjchaaeaaDoor
