/- The byte that a % says: the program's saidBy, by strconv.ParseUint at two letters. -/
import Derived.Test.YthbgnkkjchaaeaaDoorPhByte
import Derived.Test.YthbgnkkjchaaeaaDoorShelf
import Derived.Lib.ConvBytes
import Derived.Lib.Walk
import Derived.Lib.Hide
import Derived.Laws.Strings3
import Derived.Laws.Closers25
import Derived.Laws.Closers25b
import Derived.WalkKit
import Derived.BigCall
import Derived.BigGuard
namespace Go.Proofs.YthbgnkkjchaaeaaDoor
open Go.RowKit Go.Lib

/-- The library's error variable, whatever it holds. -/
structure Env (W : World) : Prop where
  err : ∃ ev, W.cell? ⟨2, 0, none⟩ = some ev ∧ (ev = .nilIface ∨ ∃ te pe, ev = .iface te pe)
theorem Env.next {W W' : World} (h : Env W) (hb : Below W.heap.size W W') : Env W' := by
  obtain ⟨ev, h1, h2⟩ := h.err
  have hl : 2 < W.heap.size := Lib.lt_of_cell h1
  exact ⟨ev, (hb.cell (p := ⟨2, 0, none⟩) hl).trans h1, h2⟩

def lowN (n : Nat) : Nat := n ||| 32
theorem bits_low : ∀ n : Nat, n < 256 → bits .or .u8 (n : Int) 32 = ((lowN n : Nat) : Int) := by decide +kernel
theorem low_lt : ∀ n : Nat, n < 256 → lowN n < 256 := by decide +kernel
set_option maxRecDepth 100000 in
theorem lower_any (n : Nat) (hn : n < 256) (w : World) : Calls Tryd.prog 66 #[.int .u8 n] w (fun e w' => e = .returned (.int .u8 (lowN n)) ∧ w' = w) := by
  rw [← bits_low n hn]
  go_enter Tryd.func66, Tryd.ntmps66
  go_wp2
  go_ret
  exact ⟨rfl, rfl⟩
/-- What a letter is to the library's loop: a digit below 16; a digit above; none. -/
def hexN (n : Nat) : Option Nat := if 48 ≤ n ∧ n ≤ 57 then some (n - 48) else if 97 ≤ lowN n ∧ lowN n ≤ 102 then some (lowN n - 87) else none
theorem hexN_eq : ∀ n : Nat, n < 256 → hexN n = if 48 ≤ n ∧ n ≤ 57 then some (n - 48) else if 65 ≤ n ∧ n ≤ 70 then some (n - 55) else if 97 ≤ n ∧ n ≤ 102 then some (n - 87) else none := by decide +kernel
theorem hexN_hexV (c : UInt8) : hexN c.toNat = hexV c := hexN_eq _ c.toNat_lt
theorem hexN_lt {n x : Nat} (h : hexN n = some x) : x < 16 := by
  unfold hexN at h
  split at h
  · injection h; omega
  split at h
  · injection h; omega
  · cases h
/-- The number so far, and the letters to come. -/
def hexL (acc : Nat) : List UInt8 → Option Nat
  | [] => some acc
  | c :: r => match hexN c.toNat with
    | some d => hexL (acc * 16 + d) r
    | none => none
theorem hexL_two (a b : UInt8) : hexL 0 [a, b] = (twoV a b).map (·.toNat) := by
  unfold twoV
  rw [hexL, ← hexN_hexV, ← hexN_hexV]
  cases ha : hexN a.toNat with
  | none => rfl
  | some x =>
    simp only [hexL]
    cases hb : hexN b.toNat with
    | none => rfl
    | some y =>
      have h1 := hexN_lt ha
      have h2 := hexN_lt hb
      simp only [Option.map_some, Option.some.injEq]
      rw [UInt8.toNat_ofNat']
      omega
def hexA : Option Nat → Value
  | some v => .tuple #[.int .u64 v, .nilIface]
  | none => .tuple #[.int .u64 0, .iface 90 (.int .i64 2)]

set_option maxHeartbeats 4000000 in
set_option maxRecDepth 100000 in
theorem puint_any (t : ByteArray) (h2 : t.size = 2) (w : World) :
    Calls Tryd.prog 55 #[.string t, .int .i64 16, .int .i64 8] w fun e w' => e = .returned (hexA (hexL 0 t.data.toList)) ∧ Below w.heap.size w w' := by
  have hemp : t.toList.isEmpty = false := by
    rw [← decide_eq_emptyBytes]
    exact decide_eq_false (fun h => by rw [h] at h2; cases h2)
  have hcv := Lib.run_convert_string_bytes (P := Tryd.prog) w 9 53 5 t (u := .string) Tryd.underlying9 Tryd.underlying53 Tryd.underlying5
  have hB : ∀ j, j < t.size → (Lib.bytesWorld w 5 t).cell? ⟨w.heap.size, j, none⟩ = some (.int .u8 (t.data.toList.getD j 0).toNat) := fun j hj => Lib.bytesWorld_cell w 5 t j hj
  have hW := hideL (Lib.bytesWorld_below w 5 t)
  obtain ⟨W1, hW1⟩ : ∃ W1, W1 = Lib.bytesWorld w 5 t := ⟨_, rfl⟩
  rw [← hW1] at hcv hB hW
  clear hW1
  obtain ⟨bs, hL⟩ : ∃ bs, bs = t.data.toList := ⟨_, rfl⟩
  have hLn : bs.length = t.size := by rw [hL, Lib.size_eq]
  rw [← hL] at hB ⊢
  clear hL
  have hmv : IntKind.u64.wrap (IntKind.u64.wrap 256 - 1) = 255 := by
    rw [IntKind.wrap_u64, IntKind.wrap_u64]
    decide
  obtain ⟨V, hV⟩ : ∃ V, hexL 0 bs = V := ⟨_, rfl⟩
  rw [hV]
  have HV := hideL hV
  clear hV
  go_enter Tryd.func55, Tryd.ntmps55
  go_wp2
  go_loop [12, 13, 101] (fun vu vn vi => ∃ (k acc : Nat) (a : Int), vu = .bool false ∧ vn = .int .u64 a ∧ vi = .int .i64 k ∧ k ≤ t.size ∧ HidL (a = (acc : Int) ∧ acc < 16 ^ k ∧ hexL acc (bs.drop k) = V))
    (fun _ _ vi => t.size - (RowKit.intOf vi).toNat)
  case atStart => exact ⟨0, 0, 0, rfl, rfl, rfl, by omega, ⟨rfl, by decide, HV.out⟩⟩
  case round =>
    obtain ⟨k, acc, a, rfl, rfl, rfl, hk, hh⟩ := hrel
    obtain ⟨ha, hacc, hdec⟩ := hh.out
    clear hh HV
    by_cases hkn : k < t.size
    · have hacc15 : acc ≤ 15 := by
        have : k = 0 ∨ k = 1 := by omega
        rcases this with rfl | rfl <;> simp at hacc <;> omega
      have a0 : 0 ≤ a := by omega
      have a1 : a ≤ 15 := by omega
      have hc := hB k hkn
      have hdrop : bs.drop k = bs[k]'(by omega) :: bs.drop (k + 1) := List.drop_eq_getElem_cons (by omega)
      have hget : bs.getD k 0 = bs[k]'(by omega) := by simp [List.getD, List.getElem?_eq_getElem (show k < bs.length by omega)]
      rw [hdrop, hexL] at hdec
      rw [hget] at hc
      generalize bs[k]'(by omega) = c at hc hdec
      have hc256 : c.toNat < 256 := c.toNat_lt
      generalize c.toNat = n at *
      clear hB hdrop hget
      have LO := hideL (fun W : World => lower_any n hc256 W)
      have hlo := low_lt n hc256
      have hnx : ∀ d, d < 16 → acc * 16 + d < 16 ^ (k + 1) := by
        intro d hd
        have : k = 0 ∨ k = 1 := by omega
        rcases this with rfl | rfl <;> simp at hacc ⊢ <;> omega
      by_cases hdig : 48 ≤ n ∧ n ≤ 57
      · have hx : hexN n = some (n - 48) := if_pos hdig
        rw [hx] at hdec
        obtain ⟨hd0, hd1⟩ := hdig
        have HN : HidL (a * 16 + ((n : Int) - 48) = ((acc * 16 + (n - 48) : Nat) : Int) ∧ acc * 16 + (n - 48) < 16 ^ (k + 1) ∧ hexL (acc * 16 + (n - 48)) (bs.drop (k + 1)) = V) := ⟨by omega, hnx _ (by omega), hdec⟩
        have i1 : (48 : Int) ≤ (n : Int) := by omega
        have i2 : (n : Int) ≤ 57 := by omega
        have i3 : ((n : Int) == 95) = false := beq_eq_false_iff_ne.2 (by omega)
        clear hacc hacc15 hdec ha hnx hx LO hlo
        go_wp2
        refine ⟨⟨k + 1, acc * 16 + (n - 48), a * 16 + ((n : Int) - 48), rfl, (by first | rfl | (congr 1; omega)), (by first | rfl | (congr 1; omega)), by omega, HN⟩, by simp [RowKit.intOf]; omega⟩
      · have hx : hexN n = if 97 ≤ lowN n ∧ lowN n ≤ 102 then some (lowN n - 87) else none := if_neg hdig
        rw [hx] at hdec
        have i4 : (decide ((48 : Int) ≤ (n : Int)) && decide ((n : Int) ≤ 57)) = false := by
          rw [Bool.and_eq_false_iff, decide_eq_false_iff_not, decide_eq_false_iff_not]; omega
        have i95 : n = 95 → lowN n = 127 := by rintro rfl; rfl
        by_cases h95 : n = 95
        · subst h95
          have LO : HidL (∀ W : World, Calls Tryd.prog 66 #[.int .u8 95] W (fun e w' => e = .returned (.int .u8 127) ∧ w' = W)) := ⟨fun W => LO.out W⟩
          have hdec : (none : Option Nat) = V := hdec
          subst hdec
          clear hacc hacc15 ha hnx hx hlo i95 i4 hdig
          go_wp2_with (first
            | (go_at_call 66; refine (LO.out _).mono ?_; rintro e w2 ⟨rfl, rfl⟩))
          all_goals go_ret2
          all_goals exact ⟨rfl, hW.out⟩
        have i3 : ((n : Int) == 95) = false := beq_eq_false_iff_ne.2 (by omega)
        clear i95
        generalize lowN n = q at *
        by_cases hlet : 97 ≤ q ∧ q ≤ 122
        · obtain ⟨hq0, hq1⟩ := hlet
          have i1 : (97 : Int) ≤ (q : Int) := by omega
          have i2 : (q : Int) ≤ 122 := by omega
          by_cases hq2 : q ≤ 102
          · rw [if_pos ⟨hq0, hq2⟩] at hdec
            have HN : HidL (a * 16 + ((q : Int) - 97 + 10) = ((acc * 16 + (q - 87) : Nat) : Int) ∧ acc * 16 + (q - 87) < 16 ^ (k + 1) ∧ hexL (acc * 16 + (q - 87)) (bs.drop (k + 1)) = V) := ⟨by omega, hnx _ (by omega), hdec⟩
            have i5 : (q : Int) ≤ 102 := by omega
            clear hacc hacc15 hdec ha hnx hx hlo h95
            go_wp2_with (first
              | (go_at_call 66; refine (LO.out _).mono ?_; rintro e w2 ⟨rfl, rfl⟩))
            all_goals refine ⟨⟨k + 1, acc * 16 + (q - 87), a * 16 + ((q : Int) - 97 + 10), rfl, (by first | rfl | (congr 1; omega)), (by first | rfl | (congr 1; omega)), by omega, HN⟩, by simp [RowKit.intOf]; omega⟩
          · rw [if_neg (by omega)] at hdec
            have hdec : (none : Option Nat) = V := hdec
            subst hdec
            clear hacc hacc15 ha hnx hx hlo h95
            go_wp2_with (first
              | (go_at_call 66; refine (LO.out _).mono ?_; rintro e w2 ⟨rfl, rfl⟩))
            all_goals go_ret2
            all_goals exact ⟨rfl, hW.out⟩
        · rw [if_neg (by omega)] at hdec
          have hdec : (none : Option Nat) = V := hdec
          subst hdec
          clear hacc hacc15 ha hnx hx hlo h95
          go_wp2_with (first
            | (go_at_call 66; refine (LO.out _).mono ?_; rintro e w2 ⟨rfl, rfl⟩))
          all_goals go_ret2
          all_goals exact ⟨rfl, hW.out⟩
    · obtain rfl : k = t.size := by omega
      rw [List.drop_of_length_le (by omega), hexL] at hdec
      subst hdec
      clear hB hacc
      go_wp2
      go_ret2
      subst ha
      exact ⟨rfl, hW.out⟩
end Go.Proofs.YthbgnkkjchaaeaaDoor
