/- The law PathQuery (P8.7). -/
import Derived.Test.YthbgnkkjchaaeaaDoorPathNormalLaw
import Derived.Test.YthbgnkkjchaaeaaDoorPhAlike
import Derived.Test.YthbgnkkjchaaeaaDoorPhJoin
import Derived.Test.YthbgnkkjchaaeaaDoorPhRefN
namespace Go.Proofs.YthbgnkkjchaaeaaDoor
open Go.RowKit

set_option maxRecDepth 100000 in
set_option maxHeartbeats 2000000 in
theorem pquery_a (a b q : ByteArray) (h : 200 < a.size) (w0 : World) (hE : Env w0) : Calls Tryd.prog 6 #[.string a, .string b, .string q] w0 (fun e w' => e = .returned (.bool true) ∧ Below w0.heap.size w0 w') := by
  have HE := hideL hE
  have HB : HidL (Below w0.heap.size w0 w0) := ⟨Below.refl _ _⟩
  have LW := hideL (fun (W : World) (h : Env W) => awake_any W h)
  clear hE
  have i0 : (200 : Int) < (a.size : Int) := by omega
  clear h
  go_enter Tryd.func6, Tryd.ntmps6
  go_wp2_with (first
    | (go_at_call 7; with_reducible refine (LW.out _ HE.out).mono ?_; rintro e wx ⟨rfl, hB⟩; replace HE := hideL (HE.out.next hB); (try replace HG := hideL (HG.out.below hB)); (try replace HT := hideL (HT.out.below hB)); (try replace HU := hideL (HU.out.below hB)); replace HB := hideL (HB.out.trans (hB.mono HB.out.size)); clear hB)
    | go_region)
  all_goals go_ret
  all_goals exact ⟨rfl, HB.out⟩
set_option maxRecDepth 100000 in
set_option maxHeartbeats 2000000 in
theorem pquery_b (a b q : ByteArray) (h0 : ¬ 200 < a.size) (h : 200 < b.size) (w0 : World) (hE : Env w0) : Calls Tryd.prog 6 #[.string a, .string b, .string q] w0 (fun e w' => e = .returned (.bool true) ∧ Below w0.heap.size w0 w') := by
  have HE := hideL hE
  have HB : HidL (Below w0.heap.size w0 w0) := ⟨Below.refl _ _⟩
  have LW := hideL (fun (W : World) (h : Env W) => awake_any W h)
  clear hE
  have i0 : ¬ (200 : Int) < (a.size : Int) := by omega
  have i1 : (200 : Int) < (b.size : Int) := by omega
  clear h h0
  go_enter Tryd.func6, Tryd.ntmps6
  go_wp2_with (first
    | (go_at_call 7; with_reducible refine (LW.out _ HE.out).mono ?_; rintro e wx ⟨rfl, hB⟩; replace HE := hideL (HE.out.next hB); (try replace HG := hideL (HG.out.below hB)); (try replace HT := hideL (HT.out.below hB)); (try replace HU := hideL (HU.out.below hB)); replace HB := hideL (HB.out.trans (hB.mono HB.out.size)); clear hB)
    | go_region)
  all_goals go_ret
  all_goals exact ⟨rfl, HB.out⟩
set_option maxRecDepth 100000 in
set_option maxHeartbeats 2000000 in
theorem pquery_q (a b q : ByteArray) (h0 : ¬ 200 < a.size) (h1 : ¬ 200 < b.size) (h : 200 < q.size) (w0 : World) (hE : Env w0) : Calls Tryd.prog 6 #[.string a, .string b, .string q] w0 (fun e w' => e = .returned (.bool true) ∧ Below w0.heap.size w0 w') := by
  have HE := hideL hE
  have HB : HidL (Below w0.heap.size w0 w0) := ⟨Below.refl _ _⟩
  have LW := hideL (fun (W : World) (h : Env W) => awake_any W h)
  clear hE
  have i0 : ¬ (200 : Int) < (a.size : Int) := by omega
  have i1 : ¬ (200 : Int) < (b.size : Int) := by omega
  have i2 : (200 : Int) < (q.size : Int) := by omega
  clear h h0 h1
  go_enter Tryd.func6, Tryd.ntmps6
  go_wp2_with (first
    | (go_at_call 7; with_reducible refine (LW.out _ HE.out).mono ?_; rintro e wx ⟨rfl, hB⟩; replace HE := hideL (HE.out.next hB); (try replace HG := hideL (HG.out.below hB)); (try replace HT := hideL (HT.out.below hB)); (try replace HU := hideL (HU.out.below hB)); replace HB := hideL (HB.out.trans (hB.mono HB.out.size)); clear hB)
    | go_region)
  all_goals go_ret
  all_goals exact ⟨rfl, HB.out⟩
/-- How three targets may stand. -/
theorem query_cases (A Q : List UInt8) (hA : (63 : UInt8) ∉ A) :
    (norP A = none ∧ norP (A ++ 63 :: Q) = none ∨ ∃ p, norP A = some (p, []) ∧ (norP (A ++ 63 :: Q) = none ∨ norP (A ++ 63 :: Q) = some (p, (spP nobad Q).1))) := by
  cases hx : norP (A ++ 63 :: Q) with
  | some xy =>
    obtain ⟨x, y⟩ := xy
    obtain ⟨h1, h2⟩ := nor_ask hA hx
    subst h2
    exact .inr ⟨x, h1, .inr rfl⟩
  | none =>
    cases ha : norP A with
    | none => exact .inl ⟨rfl, rfl⟩
    | some pq =>
      obtain ⟨p, q⟩ := pq
      obtain rfl := nor_query hA ha
      exact .inr ⟨p, rfl, .inl rfl⟩
theorem take_not {s : ByteArray} {k : Nat} (h : (63 : UInt8) ∉ s.data.toList.take k) (hk : k < s.size) (hc : s[k] ≠ 63) : (63 : UInt8) ∉ s.data.toList.take (k + 1) := by
  have hkl : k < s.data.toList.length := by rw [size_list]; exact hk
  rw [List.take_add_one, List.getElem?_eq_getElem hkl]
  intro hm
  rcases List.mem_append.1 hm with hm | hm
  · exact h hm
  · simp at hm; exact hc hm.symm
set_option maxRecDepth 100000 in
set_option maxHeartbeats 2000000 in
theorem pquery_main (a b q : ByteArray) (ha : ¬ 200 < a.size) (hb : ¬ 200 < b.size) (hq : ¬ 200 < q.size) (w0 : World) (hE : Env w0) : Calls Tryd.prog 6 #[.string a, .string b, .string q] w0 (fun e w' => e = .returned (.bool true) ∧ Below w0.heap.size w0 w') := by
  have HE := hideL hE
  have HB : HidL (Below w0.heap.size w0 w0) := ⟨Below.refl _ _⟩
  have LW := hideL (fun (W : World) (h : Env W) => awake_any W h)
  clear hE
  have i0 : ¬ (200 : Int) < (a.size : Int) := by omega
  have i1 : ¬ (200 : Int) < (b.size : Int) := by omega
  have i2 : ¬ (200 : Int) < (q.size : Int) := by omega
  have NA := hideL (fun (W : World) (h : Env W) => normal_any a (by omega) W h)
  have NX := hideL (fun (W : World) (h : Env W) => normal_any (a ++ ⟨#[63]⟩ ++ q) (by rw [ByteArray.size_append, ByteArray.size_append]; show a.size + 1 + q.size ≤ _; omega) W h)
  have NV := hideL (fun (W : World) (h : Env W) => normal_any (b ++ ⟨#[63]⟩ ++ q) (by rw [ByteArray.size_append, ByteArray.size_append]; show b.size + 1 + q.size ≤ _; omega) W h)
  have hl : ∀ s : ByteArray, (s ++ ⟨#[63]⟩ ++ q).data.toList = s.data.toList ++ 63 :: q.data.toList := fun s => by
    rw [ByteArray.data_append, ByteArray.data_append, Array.toList_append, Array.toList_append, List.append_assoc]; rfl
  rw [hl] at NX NV
  have z1 : ¬ 9223372036854775807 < a.size + 1 := by omega
  have z2 : ¬ 9223372036854775807 < a.size + 1 + q.size := by omega
  have z3 : ¬ 9223372036854775807 < b.size + 1 := by omega
  have z4 : ¬ 9223372036854775807 < b.size + 1 + q.size := by omega
  have H0 : HidL ((63 : UInt8) ∉ a.data.toList.take 0) := ⟨by simp⟩
  clear hl ha hb hq
  go_enter Tryd.func6, Tryd.ntmps6
  go_wp2_with fail
  go_loopg [7] a.size (fun g i wr => ∃ k : Nat, k + g = a.size ∧ i = .int .i64 k ∧ HidL ((63 : UInt8) ∉ a.data.toList.take k) ∧ wr = w0)
  case atStart => exact ⟨0, Nat.zero_add _, rfl, H0, rfl⟩
  case round =>
    obtain ⟨k, hkg, rfl, HK, hwr⟩ := hrel
    rw [hwr]
    clear hwr
    by_cases hlt : k < a.size
    · have hlt' : (k : Int) < (a.size : Int) := by omega
      have hkl : k < a.data.toList.length := by rw [size_list]; exact hlt
      by_cases hc : a[k] = 63
      · have i63 : (((a[k].toNat : Nat) : Int) == 63) = true := by rw [hc]; rfl
        clear hc
        go_wp2_with (first
          | (go_at_call 7; with_reducible refine (LW.out _ HE.out).mono ?_; rintro e wx ⟨rfl, hB⟩; replace HE := hideL (HE.out.next hB); (try replace HG := hideL (HG.out.below hB)); (try replace HT := hideL (HT.out.below hB)); (try replace HU := hideL (HU.out.below hB)); replace HB := hideL (HB.out.trans (hB.mono HB.out.size)); clear hB)
          | go_region)
        all_goals go_ret
        all_goals exact ⟨rfl, HB.out⟩
      · have i63 : (((a[k].toNat : Nat) : Int) == 63) = false := beq_eq_false_iff_ne.2 (fun e => hc (UInt8.toNat_inj.1 (by rw [show (63 : UInt8).toNat = 63 from rfl]; omega)))
        have HK2 := hideL (take_not HK.out hlt hc)
        clear hc
        go_wp2_with fail
        go_roundg (a.size - (k + 1))
        case measure => omega
        case rel => exact ⟨k + 1, by omega, by go_num, HK2, rfl⟩
    · obtain rfl : k = a.size := by omega
      have hlt' : ¬ (a.size : Int) < (a.size : Int) := by omega
      have hA := HK.out
      rw [List.take_of_length_le (by rw [size_list]; exact Nat.le_refl _)] at hA
      clear HK
      have HAA := hideL hA
      have H0 : HidL ((63 : UInt8) ∉ b.data.toList.take 0) := ⟨by simp⟩
      clear hA
      go_wp2_with fail
      go_loopg [8] b.size (fun g i wr => ∃ k : Nat, k + g = b.size ∧ i = .int .i64 k ∧ HidL ((63 : UInt8) ∉ b.data.toList.take k) ∧ wr = w0)
      case atStart => exact ⟨0, Nat.zero_add _, rfl, H0, rfl⟩
      case round =>
        obtain ⟨k, hkg, rfl, HK, hwr⟩ := hrel
        rw [hwr]
        clear hwr
        by_cases hlt : k < b.size
        · have hlt' : (k : Int) < (b.size : Int) := by omega
          have hkl : k < b.data.toList.length := by rw [size_list]; exact hlt
          by_cases hc : b[k] = 63
          · have i63 : (((b[k].toNat : Nat) : Int) == 63) = true := by rw [hc]; rfl
            clear hc
            go_wp2_with (first
              | (go_at_call 7; with_reducible refine (LW.out _ HE.out).mono ?_; rintro e wx ⟨rfl, hB⟩; replace HE := hideL (HE.out.next hB); (try replace HG := hideL (HG.out.below hB)); (try replace HT := hideL (HT.out.below hB)); (try replace HU := hideL (HU.out.below hB)); replace HB := hideL (HB.out.trans (hB.mono HB.out.size)); clear hB)
              | go_region)
            all_goals go_ret
            all_goals exact ⟨rfl, HB.out⟩
          · have i63 : (((b[k].toNat : Nat) : Int) == 63) = false := beq_eq_false_iff_ne.2 (fun e => hc (UInt8.toNat_inj.1 (by rw [show (63 : UInt8).toNat = 63 from rfl]; omega)))
            have HK2 := hideL (take_not HK.out hlt hc)
            clear hc
            go_wp2_with fail
            go_roundg (b.size - (k + 1))
            case measure => omega
            case rel => exact ⟨k + 1, by omega, by go_num, HK2, rfl⟩
        · obtain rfl : k = b.size := by omega
          have hlt' : ¬ (b.size : Int) < (b.size : Int) := by omega
          have hB := HK.out
          rw [List.take_of_length_le (by rw [size_list]; exact Nat.le_refl _)] at hB
          clear HK
          have HBB := hideL hB
          clear hB
          have hqa := query_cases a.data.toList q.data.toList HAA.out
          have hqb := query_cases b.data.toList q.data.toList HBB.out
          obtain ⟨Y, hY⟩ : ∃ Y, (spP nobad q.data.toList).1 = Y := ⟨_, rfl⟩
          rw [hY] at hqa hqb
          clear hY HAA HBB
          rcases hqa with ⟨hqa, hqx⟩ | ⟨p, hqa, hqx | hqx⟩ <;> rcases hqb with ⟨_, hqv⟩ | ⟨v, hqv0, hqv | hqv⟩
          · have LA : HidL (∀ W : World, Env W → Calls Tryd.prog 8 #[.string a] W fun e w' => e = .returned (.tuple #[.string ⟨#[]⟩, .string ⟨#[]⟩, .int .i64 2]) ∧ Below W.heap.size W w') := ⟨fun W h => by have hh := NA.out W h; rw [hqa] at hh; exact hh⟩
            have LX : HidL (∀ W : World, Env W → Calls Tryd.prog 8 #[.string (a ++ ⟨#[63]⟩ ++ q)] W fun e w' => e = .returned (.tuple #[.string ⟨#[]⟩, .string ⟨#[]⟩, .int .i64 2]) ∧ Below W.heap.size W w') := ⟨fun W h => by have hh := NX.out W h; rw [hqx] at hh; exact hh⟩
            have LV : HidL (∀ W : World, Env W → Calls Tryd.prog 8 #[.string (b ++ ⟨#[63]⟩ ++ q)] W fun e w' => e = .returned (.tuple #[.string ⟨#[]⟩, .string ⟨#[]⟩, .int .i64 2]) ∧ Below W.heap.size W w') := ⟨fun W h => by have hh := NV.out W h; rw [hqv] at hh; exact hh⟩
            clear NA NX NV hqa hqx hqv
            go_wp2_with (first
              | (go_at_call 8; first
                | (with_reducible refine (LA.out _ HE.out).mono ?_; rintro e wx ⟨rfl, hB⟩; replace HE := hideL (HE.out.next hB); (try replace HG := hideL (HG.out.below hB)); (try replace HT := hideL (HT.out.below hB)); (try replace HU := hideL (HU.out.below hB)); replace HB := hideL (HB.out.trans (hB.mono HB.out.size)); clear hB; clear LA)
                | (with_reducible refine (LX.out _ HE.out).mono ?_; rintro e wx ⟨rfl, hB⟩; replace HE := hideL (HE.out.next hB); (try replace HG := hideL (HG.out.below hB)); (try replace HT := hideL (HT.out.below hB)); (try replace HU := hideL (HU.out.below hB)); replace HB := hideL (HB.out.trans (hB.mono HB.out.size)); clear hB; clear LX)
                | (with_reducible refine (LV.out _ HE.out).mono ?_; rintro e wx ⟨rfl, hB⟩; replace HE := hideL (HE.out.next hB); (try replace HG := hideL (HG.out.below hB)); (try replace HT := hideL (HT.out.below hB)); (try replace HU := hideL (HU.out.below hB)); replace HB := hideL (HB.out.trans (hB.mono HB.out.size)); clear hB; clear LV))
              | (go_at_call 7; with_reducible refine (LW.out _ HE.out).mono ?_; rintro e wx ⟨rfl, hB⟩; replace HE := hideL (HE.out.next hB); (try replace HG := hideL (HG.out.below hB)); (try replace HT := hideL (HT.out.below hB)); (try replace HU := hideL (HU.out.below hB)); replace HB := hideL (HB.out.trans (hB.mono HB.out.size)); clear hB)
              | go_region)
            all_goals go_ret
            all_goals exact ⟨rfl, HB.out⟩
          · have LA : HidL (∀ W : World, Env W → Calls Tryd.prog 8 #[.string a] W fun e w' => e = .returned (.tuple #[.string ⟨#[]⟩, .string ⟨#[]⟩, .int .i64 2]) ∧ Below W.heap.size W w') := ⟨fun W h => by have hh := NA.out W h; rw [hqa] at hh; exact hh⟩
            have LX : HidL (∀ W : World, Env W → Calls Tryd.prog 8 #[.string (a ++ ⟨#[63]⟩ ++ q)] W fun e w' => e = .returned (.tuple #[.string ⟨#[]⟩, .string ⟨#[]⟩, .int .i64 2]) ∧ Below W.heap.size W w') := ⟨fun W h => by have hh := NX.out W h; rw [hqx] at hh; exact hh⟩
            have LV : HidL (∀ W : World, Env W → Calls Tryd.prog 8 #[.string (b ++ ⟨#[63]⟩ ++ q)] W fun e w' => e = .returned (.tuple #[.string ⟨#[]⟩, .string ⟨#[]⟩, .int .i64 2]) ∧ Below W.heap.size W w') := ⟨fun W h => by have hh := NV.out W h; rw [hqv] at hh; exact hh⟩
            clear hqv0
            clear NA NX NV hqa hqx hqv
            go_wp2_with (first
              | (go_at_call 8; first
                | (with_reducible refine (LA.out _ HE.out).mono ?_; rintro e wx ⟨rfl, hB⟩; replace HE := hideL (HE.out.next hB); (try replace HG := hideL (HG.out.below hB)); (try replace HT := hideL (HT.out.below hB)); (try replace HU := hideL (HU.out.below hB)); replace HB := hideL (HB.out.trans (hB.mono HB.out.size)); clear hB; clear LA)
                | (with_reducible refine (LX.out _ HE.out).mono ?_; rintro e wx ⟨rfl, hB⟩; replace HE := hideL (HE.out.next hB); (try replace HG := hideL (HG.out.below hB)); (try replace HT := hideL (HT.out.below hB)); (try replace HU := hideL (HU.out.below hB)); replace HB := hideL (HB.out.trans (hB.mono HB.out.size)); clear hB; clear LX)
                | (with_reducible refine (LV.out _ HE.out).mono ?_; rintro e wx ⟨rfl, hB⟩; replace HE := hideL (HE.out.next hB); (try replace HG := hideL (HG.out.below hB)); (try replace HT := hideL (HT.out.below hB)); (try replace HU := hideL (HU.out.below hB)); replace HB := hideL (HB.out.trans (hB.mono HB.out.size)); clear hB; clear LV))
              | (go_at_call 7; with_reducible refine (LW.out _ HE.out).mono ?_; rintro e wx ⟨rfl, hB⟩; replace HE := hideL (HE.out.next hB); (try replace HG := hideL (HG.out.below hB)); (try replace HT := hideL (HT.out.below hB)); (try replace HU := hideL (HU.out.below hB)); replace HB := hideL (HB.out.trans (hB.mono HB.out.size)); clear hB)
              | go_region)
            all_goals go_ret
            all_goals exact ⟨rfl, HB.out⟩
          · have LA : HidL (∀ W : World, Env W → Calls Tryd.prog 8 #[.string a] W fun e w' => e = .returned (.tuple #[.string ⟨#[]⟩, .string ⟨#[]⟩, .int .i64 2]) ∧ Below W.heap.size W w') := ⟨fun W h => by have hh := NA.out W h; rw [hqa] at hh; exact hh⟩
            have LX : HidL (∀ W : World, Env W → Calls Tryd.prog 8 #[.string (a ++ ⟨#[63]⟩ ++ q)] W fun e w' => e = .returned (.tuple #[.string ⟨#[]⟩, .string ⟨#[]⟩, .int .i64 2]) ∧ Below W.heap.size W w') := ⟨fun W h => by have hh := NX.out W h; rw [hqx] at hh; exact hh⟩
            have LV : HidL (∀ W : World, Env W → Calls Tryd.prog 8 #[.string (b ++ ⟨#[63]⟩ ++ q)] W fun e w' => e = .returned (.tuple #[.string (bo v), .string (bo Y), .int .i64 0]) ∧ Below W.heap.size W w') := ⟨fun W h => by have hh := NV.out W h; rw [hqv] at hh; exact hh⟩
            have hve : (bo v).toList.isEmpty = false := by rw [bo_toList]; cases v with | nil => exact absurd rfl (nor_ne hqv0) | cons _ _ => rfl
            clear hqv0
            clear NA NX NV hqa hqx hqv
            go_wp2_with (first
              | (go_at_call 8; first
                | (with_reducible refine (LA.out _ HE.out).mono ?_; rintro e wx ⟨rfl, hB⟩; replace HE := hideL (HE.out.next hB); (try replace HG := hideL (HG.out.below hB)); (try replace HT := hideL (HT.out.below hB)); (try replace HU := hideL (HU.out.below hB)); replace HB := hideL (HB.out.trans (hB.mono HB.out.size)); clear hB; clear LA)
                | (with_reducible refine (LX.out _ HE.out).mono ?_; rintro e wx ⟨rfl, hB⟩; replace HE := hideL (HE.out.next hB); (try replace HG := hideL (HG.out.below hB)); (try replace HT := hideL (HT.out.below hB)); (try replace HU := hideL (HU.out.below hB)); replace HB := hideL (HB.out.trans (hB.mono HB.out.size)); clear hB; clear LX)
                | (with_reducible refine (LV.out _ HE.out).mono ?_; rintro e wx ⟨rfl, hB⟩; replace HE := hideL (HE.out.next hB); (try replace HG := hideL (HG.out.below hB)); (try replace HT := hideL (HT.out.below hB)); (try replace HU := hideL (HU.out.below hB)); replace HB := hideL (HB.out.trans (hB.mono HB.out.size)); clear hB; clear LV))
              | (go_at_call 7; with_reducible refine (LW.out _ HE.out).mono ?_; rintro e wx ⟨rfl, hB⟩; replace HE := hideL (HE.out.next hB); (try replace HG := hideL (HG.out.below hB)); (try replace HT := hideL (HT.out.below hB)); (try replace HU := hideL (HU.out.below hB)); replace HB := hideL (HB.out.trans (hB.mono HB.out.size)); clear hB)
              | go_region)
            all_goals go_ret
            all_goals exact ⟨rfl, HB.out⟩
          · have LA : HidL (∀ W : World, Env W → Calls Tryd.prog 8 #[.string a] W fun e w' => e = .returned (.tuple #[.string (bo p), .string ⟨#[]⟩, .int .i64 0]) ∧ Below W.heap.size W w') := ⟨fun W h => by have hh := NA.out W h; rw [hqa] at hh; exact hh⟩
            have LX : HidL (∀ W : World, Env W → Calls Tryd.prog 8 #[.string (a ++ ⟨#[63]⟩ ++ q)] W fun e w' => e = .returned (.tuple #[.string ⟨#[]⟩, .string ⟨#[]⟩, .int .i64 2]) ∧ Below W.heap.size W w') := ⟨fun W h => by have hh := NX.out W h; rw [hqx] at hh; exact hh⟩
            have LV : HidL (∀ W : World, Env W → Calls Tryd.prog 8 #[.string (b ++ ⟨#[63]⟩ ++ q)] W fun e w' => e = .returned (.tuple #[.string ⟨#[]⟩, .string ⟨#[]⟩, .int .i64 2]) ∧ Below W.heap.size W w') := ⟨fun W h => by have hh := NV.out W h; rw [hqv] at hh; exact hh⟩
            clear NA NX NV hqa hqx hqv
            go_wp2_with (first
              | (go_at_call 8; first
                | (with_reducible refine (LA.out _ HE.out).mono ?_; rintro e wx ⟨rfl, hB⟩; replace HE := hideL (HE.out.next hB); (try replace HG := hideL (HG.out.below hB)); (try replace HT := hideL (HT.out.below hB)); (try replace HU := hideL (HU.out.below hB)); replace HB := hideL (HB.out.trans (hB.mono HB.out.size)); clear hB; clear LA)
                | (with_reducible refine (LX.out _ HE.out).mono ?_; rintro e wx ⟨rfl, hB⟩; replace HE := hideL (HE.out.next hB); (try replace HG := hideL (HG.out.below hB)); (try replace HT := hideL (HT.out.below hB)); (try replace HU := hideL (HU.out.below hB)); replace HB := hideL (HB.out.trans (hB.mono HB.out.size)); clear hB; clear LX)
                | (with_reducible refine (LV.out _ HE.out).mono ?_; rintro e wx ⟨rfl, hB⟩; replace HE := hideL (HE.out.next hB); (try replace HG := hideL (HG.out.below hB)); (try replace HT := hideL (HT.out.below hB)); (try replace HU := hideL (HU.out.below hB)); replace HB := hideL (HB.out.trans (hB.mono HB.out.size)); clear hB; clear LV))
              | (go_at_call 7; with_reducible refine (LW.out _ HE.out).mono ?_; rintro e wx ⟨rfl, hB⟩; replace HE := hideL (HE.out.next hB); (try replace HG := hideL (HG.out.below hB)); (try replace HT := hideL (HT.out.below hB)); (try replace HU := hideL (HU.out.below hB)); replace HB := hideL (HB.out.trans (hB.mono HB.out.size)); clear hB)
              | go_region)
            all_goals go_ret
            all_goals exact ⟨rfl, HB.out⟩
          · have LA : HidL (∀ W : World, Env W → Calls Tryd.prog 8 #[.string a] W fun e w' => e = .returned (.tuple #[.string (bo p), .string ⟨#[]⟩, .int .i64 0]) ∧ Below W.heap.size W w') := ⟨fun W h => by have hh := NA.out W h; rw [hqa] at hh; exact hh⟩
            have LX : HidL (∀ W : World, Env W → Calls Tryd.prog 8 #[.string (a ++ ⟨#[63]⟩ ++ q)] W fun e w' => e = .returned (.tuple #[.string ⟨#[]⟩, .string ⟨#[]⟩, .int .i64 2]) ∧ Below W.heap.size W w') := ⟨fun W h => by have hh := NX.out W h; rw [hqx] at hh; exact hh⟩
            have LV : HidL (∀ W : World, Env W → Calls Tryd.prog 8 #[.string (b ++ ⟨#[63]⟩ ++ q)] W fun e w' => e = .returned (.tuple #[.string ⟨#[]⟩, .string ⟨#[]⟩, .int .i64 2]) ∧ Below W.heap.size W w') := ⟨fun W h => by have hh := NV.out W h; rw [hqv] at hh; exact hh⟩
            clear hqv0
            clear NA NX NV hqa hqx hqv
            go_wp2_with (first
              | (go_at_call 8; first
                | (with_reducible refine (LA.out _ HE.out).mono ?_; rintro e wx ⟨rfl, hB⟩; replace HE := hideL (HE.out.next hB); (try replace HG := hideL (HG.out.below hB)); (try replace HT := hideL (HT.out.below hB)); (try replace HU := hideL (HU.out.below hB)); replace HB := hideL (HB.out.trans (hB.mono HB.out.size)); clear hB; clear LA)
                | (with_reducible refine (LX.out _ HE.out).mono ?_; rintro e wx ⟨rfl, hB⟩; replace HE := hideL (HE.out.next hB); (try replace HG := hideL (HG.out.below hB)); (try replace HT := hideL (HT.out.below hB)); (try replace HU := hideL (HU.out.below hB)); replace HB := hideL (HB.out.trans (hB.mono HB.out.size)); clear hB; clear LX)
                | (with_reducible refine (LV.out _ HE.out).mono ?_; rintro e wx ⟨rfl, hB⟩; replace HE := hideL (HE.out.next hB); (try replace HG := hideL (HG.out.below hB)); (try replace HT := hideL (HT.out.below hB)); (try replace HU := hideL (HU.out.below hB)); replace HB := hideL (HB.out.trans (hB.mono HB.out.size)); clear hB; clear LV))
              | (go_at_call 7; with_reducible refine (LW.out _ HE.out).mono ?_; rintro e wx ⟨rfl, hB⟩; replace HE := hideL (HE.out.next hB); (try replace HG := hideL (HG.out.below hB)); (try replace HT := hideL (HT.out.below hB)); (try replace HU := hideL (HU.out.below hB)); replace HB := hideL (HB.out.trans (hB.mono HB.out.size)); clear hB)
              | go_region)
            all_goals go_ret
            all_goals exact ⟨rfl, HB.out⟩
          · have LA : HidL (∀ W : World, Env W → Calls Tryd.prog 8 #[.string a] W fun e w' => e = .returned (.tuple #[.string (bo p), .string ⟨#[]⟩, .int .i64 0]) ∧ Below W.heap.size W w') := ⟨fun W h => by have hh := NA.out W h; rw [hqa] at hh; exact hh⟩
            have LX : HidL (∀ W : World, Env W → Calls Tryd.prog 8 #[.string (a ++ ⟨#[63]⟩ ++ q)] W fun e w' => e = .returned (.tuple #[.string ⟨#[]⟩, .string ⟨#[]⟩, .int .i64 2]) ∧ Below W.heap.size W w') := ⟨fun W h => by have hh := NX.out W h; rw [hqx] at hh; exact hh⟩
            have LV : HidL (∀ W : World, Env W → Calls Tryd.prog 8 #[.string (b ++ ⟨#[63]⟩ ++ q)] W fun e w' => e = .returned (.tuple #[.string (bo v), .string (bo Y), .int .i64 0]) ∧ Below W.heap.size W w') := ⟨fun W h => by have hh := NV.out W h; rw [hqv] at hh; exact hh⟩
            have hve : (bo v).toList.isEmpty = false := by rw [bo_toList]; cases v with | nil => exact absurd rfl (nor_ne hqv0) | cons _ _ => rfl
            clear hqv0
            clear NA NX NV hqa hqx hqv
            go_wp2_with (first
              | (go_at_call 8; first
                | (with_reducible refine (LA.out _ HE.out).mono ?_; rintro e wx ⟨rfl, hB⟩; replace HE := hideL (HE.out.next hB); (try replace HG := hideL (HG.out.below hB)); (try replace HT := hideL (HT.out.below hB)); (try replace HU := hideL (HU.out.below hB)); replace HB := hideL (HB.out.trans (hB.mono HB.out.size)); clear hB; clear LA)
                | (with_reducible refine (LX.out _ HE.out).mono ?_; rintro e wx ⟨rfl, hB⟩; replace HE := hideL (HE.out.next hB); (try replace HG := hideL (HG.out.below hB)); (try replace HT := hideL (HT.out.below hB)); (try replace HU := hideL (HU.out.below hB)); replace HB := hideL (HB.out.trans (hB.mono HB.out.size)); clear hB; clear LX)
                | (with_reducible refine (LV.out _ HE.out).mono ?_; rintro e wx ⟨rfl, hB⟩; replace HE := hideL (HE.out.next hB); (try replace HG := hideL (HG.out.below hB)); (try replace HT := hideL (HT.out.below hB)); (try replace HU := hideL (HU.out.below hB)); replace HB := hideL (HB.out.trans (hB.mono HB.out.size)); clear hB; clear LV))
              | (go_at_call 7; with_reducible refine (LW.out _ HE.out).mono ?_; rintro e wx ⟨rfl, hB⟩; replace HE := hideL (HE.out.next hB); (try replace HG := hideL (HG.out.below hB)); (try replace HT := hideL (HT.out.below hB)); (try replace HU := hideL (HU.out.below hB)); replace HB := hideL (HB.out.trans (hB.mono HB.out.size)); clear hB)
              | go_region)
            all_goals go_ret
            all_goals exact ⟨rfl, HB.out⟩
          · have LA : HidL (∀ W : World, Env W → Calls Tryd.prog 8 #[.string a] W fun e w' => e = .returned (.tuple #[.string (bo p), .string ⟨#[]⟩, .int .i64 0]) ∧ Below W.heap.size W w') := ⟨fun W h => by have hh := NA.out W h; rw [hqa] at hh; exact hh⟩
            have LX : HidL (∀ W : World, Env W → Calls Tryd.prog 8 #[.string (a ++ ⟨#[63]⟩ ++ q)] W fun e w' => e = .returned (.tuple #[.string (bo p), .string (bo Y), .int .i64 0]) ∧ Below W.heap.size W w') := ⟨fun W h => by have hh := NX.out W h; rw [hqx] at hh; exact hh⟩
            have LV : HidL (∀ W : World, Env W → Calls Tryd.prog 8 #[.string (b ++ ⟨#[63]⟩ ++ q)] W fun e w' => e = .returned (.tuple #[.string ⟨#[]⟩, .string ⟨#[]⟩, .int .i64 2]) ∧ Below W.heap.size W w') := ⟨fun W h => by have hh := NV.out W h; rw [hqv] at hh; exact hh⟩
            clear NA NX NV hqa hqx hqv
            go_wp2_with (first
              | (go_at_call 8; first
                | (with_reducible refine (LA.out _ HE.out).mono ?_; rintro e wx ⟨rfl, hB⟩; replace HE := hideL (HE.out.next hB); (try replace HG := hideL (HG.out.below hB)); (try replace HT := hideL (HT.out.below hB)); (try replace HU := hideL (HU.out.below hB)); replace HB := hideL (HB.out.trans (hB.mono HB.out.size)); clear hB; clear LA)
                | (with_reducible refine (LX.out _ HE.out).mono ?_; rintro e wx ⟨rfl, hB⟩; replace HE := hideL (HE.out.next hB); (try replace HG := hideL (HG.out.below hB)); (try replace HT := hideL (HT.out.below hB)); (try replace HU := hideL (HU.out.below hB)); replace HB := hideL (HB.out.trans (hB.mono HB.out.size)); clear hB; clear LX)
                | (with_reducible refine (LV.out _ HE.out).mono ?_; rintro e wx ⟨rfl, hB⟩; replace HE := hideL (HE.out.next hB); (try replace HG := hideL (HG.out.below hB)); (try replace HT := hideL (HT.out.below hB)); (try replace HU := hideL (HU.out.below hB)); replace HB := hideL (HB.out.trans (hB.mono HB.out.size)); clear hB; clear LV))
              | (go_at_call 7; with_reducible refine (LW.out _ HE.out).mono ?_; rintro e wx ⟨rfl, hB⟩; replace HE := hideL (HE.out.next hB); (try replace HG := hideL (HG.out.below hB)); (try replace HT := hideL (HT.out.below hB)); (try replace HU := hideL (HU.out.below hB)); replace HB := hideL (HB.out.trans (hB.mono HB.out.size)); clear hB)
              | go_region)
            all_goals go_ret
            all_goals exact ⟨rfl, HB.out⟩
          · have LA : HidL (∀ W : World, Env W → Calls Tryd.prog 8 #[.string a] W fun e w' => e = .returned (.tuple #[.string (bo p), .string ⟨#[]⟩, .int .i64 0]) ∧ Below W.heap.size W w') := ⟨fun W h => by have hh := NA.out W h; rw [hqa] at hh; exact hh⟩
            have LX : HidL (∀ W : World, Env W → Calls Tryd.prog 8 #[.string (a ++ ⟨#[63]⟩ ++ q)] W fun e w' => e = .returned (.tuple #[.string (bo p), .string (bo Y), .int .i64 0]) ∧ Below W.heap.size W w') := ⟨fun W h => by have hh := NX.out W h; rw [hqx] at hh; exact hh⟩
            have LV : HidL (∀ W : World, Env W → Calls Tryd.prog 8 #[.string (b ++ ⟨#[63]⟩ ++ q)] W fun e w' => e = .returned (.tuple #[.string ⟨#[]⟩, .string ⟨#[]⟩, .int .i64 2]) ∧ Below W.heap.size W w') := ⟨fun W h => by have hh := NV.out W h; rw [hqv] at hh; exact hh⟩
            clear hqv0
            clear NA NX NV hqa hqx hqv
            go_wp2_with (first
              | (go_at_call 8; first
                | (with_reducible refine (LA.out _ HE.out).mono ?_; rintro e wx ⟨rfl, hB⟩; replace HE := hideL (HE.out.next hB); (try replace HG := hideL (HG.out.below hB)); (try replace HT := hideL (HT.out.below hB)); (try replace HU := hideL (HU.out.below hB)); replace HB := hideL (HB.out.trans (hB.mono HB.out.size)); clear hB; clear LA)
                | (with_reducible refine (LX.out _ HE.out).mono ?_; rintro e wx ⟨rfl, hB⟩; replace HE := hideL (HE.out.next hB); (try replace HG := hideL (HG.out.below hB)); (try replace HT := hideL (HT.out.below hB)); (try replace HU := hideL (HU.out.below hB)); replace HB := hideL (HB.out.trans (hB.mono HB.out.size)); clear hB; clear LX)
                | (with_reducible refine (LV.out _ HE.out).mono ?_; rintro e wx ⟨rfl, hB⟩; replace HE := hideL (HE.out.next hB); (try replace HG := hideL (HG.out.below hB)); (try replace HT := hideL (HT.out.below hB)); (try replace HU := hideL (HU.out.below hB)); replace HB := hideL (HB.out.trans (hB.mono HB.out.size)); clear hB; clear LV))
              | (go_at_call 7; with_reducible refine (LW.out _ HE.out).mono ?_; rintro e wx ⟨rfl, hB⟩; replace HE := hideL (HE.out.next hB); (try replace HG := hideL (HG.out.below hB)); (try replace HT := hideL (HT.out.below hB)); (try replace HU := hideL (HU.out.below hB)); replace HB := hideL (HB.out.trans (hB.mono HB.out.size)); clear hB)
              | go_region)
            all_goals go_ret
            all_goals exact ⟨rfl, HB.out⟩
          · have LA : HidL (∀ W : World, Env W → Calls Tryd.prog 8 #[.string a] W fun e w' => e = .returned (.tuple #[.string (bo p), .string ⟨#[]⟩, .int .i64 0]) ∧ Below W.heap.size W w') := ⟨fun W h => by have hh := NA.out W h; rw [hqa] at hh; exact hh⟩
            have LX : HidL (∀ W : World, Env W → Calls Tryd.prog 8 #[.string (a ++ ⟨#[63]⟩ ++ q)] W fun e w' => e = .returned (.tuple #[.string (bo p), .string (bo Y), .int .i64 0]) ∧ Below W.heap.size W w') := ⟨fun W h => by have hh := NX.out W h; rw [hqx] at hh; exact hh⟩
            have LV : HidL (∀ W : World, Env W → Calls Tryd.prog 8 #[.string (b ++ ⟨#[63]⟩ ++ q)] W fun e w' => e = .returned (.tuple #[.string (bo v), .string (bo Y), .int .i64 0]) ∧ Below W.heap.size W w') := ⟨fun W h => by have hh := NV.out W h; rw [hqv] at hh; exact hh⟩
            have hve : (bo v).toList.isEmpty = false := by rw [bo_toList]; cases v with | nil => exact absurd rfl (nor_ne hqv0) | cons _ _ => rfl
            clear hqv0
            clear NA NX NV hqa hqx hqv
            go_wp2_with (first
              | (go_at_call 8; first
                | (with_reducible refine (LA.out _ HE.out).mono ?_; rintro e wx ⟨rfl, hB⟩; replace HE := hideL (HE.out.next hB); (try replace HG := hideL (HG.out.below hB)); (try replace HT := hideL (HT.out.below hB)); (try replace HU := hideL (HU.out.below hB)); replace HB := hideL (HB.out.trans (hB.mono HB.out.size)); clear hB; clear LA)
                | (with_reducible refine (LX.out _ HE.out).mono ?_; rintro e wx ⟨rfl, hB⟩; replace HE := hideL (HE.out.next hB); (try replace HG := hideL (HG.out.below hB)); (try replace HT := hideL (HT.out.below hB)); (try replace HU := hideL (HU.out.below hB)); replace HB := hideL (HB.out.trans (hB.mono HB.out.size)); clear hB; clear LX)
                | (with_reducible refine (LV.out _ HE.out).mono ?_; rintro e wx ⟨rfl, hB⟩; replace HE := hideL (HE.out.next hB); (try replace HG := hideL (HG.out.below hB)); (try replace HT := hideL (HT.out.below hB)); (try replace HU := hideL (HU.out.below hB)); replace HB := hideL (HB.out.trans (hB.mono HB.out.size)); clear hB; clear LV))
              | (go_at_call 7; with_reducible refine (LW.out _ HE.out).mono ?_; rintro e wx ⟨rfl, hB⟩; replace HE := hideL (HE.out.next hB); (try replace HG := hideL (HG.out.below hB)); (try replace HT := hideL (HT.out.below hB)); (try replace HU := hideL (HU.out.below hB)); replace HB := hideL (HB.out.trans (hB.mono HB.out.size)); clear hB)
              | go_region)
            all_goals go_ret
            all_goals exact ⟨rfl, HB.out⟩
theorem pquery_law (a b q : ByteArray) (w0 : World) (hE : Env w0) : Calls Tryd.prog 6 #[.string a, .string b, .string q] w0 (fun e w' => e = .returned (.bool true) ∧ Below w0.heap.size w0 w') := by
  by_cases ha : 200 < a.size
  · exact pquery_a a b q ha w0 hE
  by_cases hb : 200 < b.size
  · exact pquery_b a b q ha hb w0 hE
  by_cases hq : 200 < q.size
  · exact pquery_q a b q ha hb hq w0 hE
  · exact pquery_main a b q ha hb hq w0 hE
end Go.Proofs.YthbgnkkjchaaeaaDoor
