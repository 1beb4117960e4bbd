/- Package addr: number; the document's Digits, Number. -/
import Derived.Test.YtgikkjjnoakhdaaDoorProg
import Derived.Test.YtgikkjjnoakhdaaDoorAdTxt
import Derived.WalkKit
import Derived.WalkSpells
import Derived.WalkLawsBesides
import Derived.IntWalk
import Derived.Outline
import Derived.Deep.QuietTactic
import Derived.BigQuiet
import Derived.Laws.Strings
import Derived.WideShapes
namespace Go.Proofs.YtgikkjjnoakhdaaDoor
open Go.RowKit Go.Lib

theorem below_drewN' (w : World) : ∀ n, Below w.heap.size w (w.drewN n)
  | 0 => Below.refl _ _
  | n + 1 => (below_drewN' w n).drew

/-- What number answers. -/
def NumPost (w : World) (r : Option Nat) (e : Ending) (w' : World) : Prop := e = .returned (.tuple #[.int .i64 (r.getD 0 : Nat), .bool r.isSome]) ∧ ∃ n, w' = w.drewN n

theorem get_byte (s : ByteArray) (k : Nat) (h : k < s.size) : s.data.toList.drop k = s[k] :: s.data.toList.drop (k + 1) := by
  have h2 : k < s.data.toList.length := by rw [Array.length_toList]; exact h
  rw [List.drop_eq_getElem_cons h2]
  congr 1
theorem digs_bad {most n : Nat} {c : UInt8} {l : List UInt8} (h : c.toNat < 48 ∨ 57 < c.toNat) : digs most n (c :: l) = none := by rw [digs, if_pos h]
theorem digs_big {most n : Nat} {c : UInt8} {l : List UInt8} (h : ¬ (c.toNat < 48 ∨ 57 < c.toNat)) (h2 : most < 10 * n + (c.toNat - 48)) : digs most n (c :: l) = none := by rw [digs, if_neg h, if_pos h2]
theorem digs_go {most n : Nat} {c : UInt8} {l : List UInt8} (h : ¬ (c.toNat < 48 ∨ 57 < c.toNat)) (h2 : ¬ most < 10 * n + (c.toNat - 48)) : digs most n (c :: l) = digs most (10 * n + (c.toNat - 48)) l := by rw [digs, if_neg h, if_neg h2]
theorem num_empty (most : Nat) : numS most [] = none := rfl
theorem num_nought {most : Nat} {l : List UInt8} (h : l.head? = some 48) (h2 : l ≠ [48]) : numS most l = none := by
  unfold numS
  split
  · rfl
  · rw [if_pos ⟨h, h2⟩]
theorem num_go {most : Nat} {l : List UInt8} (h : l ≠ []) (h2 : l.head? ≠ some 48 ∨ l = [48]) : numS most l = digs most 0 l := by
  unfold numS
  rw [if_neg h, if_neg]
  rintro ⟨h3, h4⟩
  rcases h2 with h2 | h2
  · exact h2 h3
  · exact h4 h2
theorem head_byte (s : ByteArray) (h : 0 < s.size) : s.data.toList.head? = some s[0] := by
  have h2 := get_byte s 0 h
  rw [List.drop_zero] at h2
  rw [h2]
  rfl

set_option maxRecDepth 100000 in
set_option maxHeartbeats 1000000 in
theorem number_any (s : ByteArray) (most : Nat) (hm : most ≤ 1000) (hs : s.size ≤ 9223372036854775807) (w : World) : Calls Tryd.prog 36 #[.string s, .int .i64 most] w (NumPost w (numS most s.data.toList)) := by
  have hsz : s.data.toList.length = s.size := by rw [Array.length_toList]; rfl
  by_cases h0 : s.data.toList = []
  · have e : s = ⟨#[]⟩ := Go.WideShapes.bytes_inj h0
    subst e
    go_enter Tryd.func36, Tryd.ntmps36
    go_wp2_with fail
    go_ret2
    exact ⟨rfl, 0, rfl⟩
  have hpos : 0 < s.size := by rw [← hsz]; exact List.length_pos_iff.2 h0
  have t1 : s.toList.isEmpty = false := by rw [ByteArray.toList_eq]; simpa using h0
  have hh := head_byte s hpos
  by_cases h48 : s[0] = 48
  · have t2 : ((s[0].toNat : Nat) : Int) = 48 := by rw [h48]; rfl
    by_cases hl : s.data.toList = [48]
    · have hgo := num_go (most := most) h0 (.inr hl)
      have t3 : (s.toList == [48]) = true := by rw [ByteArray.toList_eq, hl]; rfl
      have HGO := hide hgo
      clear hgo hl hh h48 h0
      go_enter Tryd.func36, Tryd.ntmps36
      go_wp2_with fail
      go_loop [6, 21] (fun n i => ∃ k m : Nat, k ≤ s.size ∧ m ≤ most ∧ i = .int .i64 k ∧ n = .int .i64 m ∧ digs most m (s.data.toList.drop k) = digs most 0 s.data.toList) (fun _ i => s.size - (intOf i).toNat)
      case atStart => exact ⟨0, 0, Nat.zero_le _, Nat.zero_le _, rfl, rfl, by rw [List.drop_zero]⟩
      case round =>
        obtain ⟨k, m, hk, hmm, rfl, rfl, hd⟩ := hrel
        by_cases hlt : k < s.size
        · rw [get_byte s k hlt] at hd
          obtain ⟨c, hc⟩ : ∃ c, s[k] = c := ⟨_, rfl⟩
          rw [hc] at hd
          have c255 := c.toNat_lt
          by_cases hb : c.toNat < 48 ∨ 57 < c.toNat
          · rw [digs_bad hb] at hd
            have HD := hide hd
            clear hd
            rcases hb with hb | hb
            · have hb' : ((c.toNat : Nat) : Int) < 48 := by omega
              go_wp2_with fail
              go_ret2
              rw [HGO.out, ← HD.out]
              exact ⟨rfl, 0, rfl⟩
            · have hb' : ¬ ((c.toNat : Nat) : Int) < 48 := by omega
              have hb2 : (57 : Int) < ((c.toNat : Nat) : Int) := by omega
              go_wp2_with fail
              go_ret2
              rw [HGO.out, ← HD.out]
              exact ⟨rfl, 0, rfl⟩
          · have hb' : ¬ ((c.toNat : Nat) : Int) < 48 := by omega
            have hb2 : ¬ (57 : Int) < ((c.toNat : Nat) : Int) := by omega
            have hw1 : IntKind.u8.wrap ((c.toNat : Int) - 48) = ((c.toNat - 48 : Nat) : Int) := by rw [IntWalk.u8_in _ (by omega)]; omega
            have hw2 : IntKind.i64.wrap (10 * (m : Int)) = 10 * (m : Int) := IntWalk.i64_in _ (by omega)
            have hw4 : IntKind.i64.wrap ((c.toNat - 48 : Nat) : Int) = ((c.toNat - 48 : Nat) : Int) := IntWalk.i64_in _ (by omega)
            have hw3 : IntKind.i64.wrap (10 * (m : Int) + ((c.toNat - 48 : Nat) : Int)) = ((10 * m + (c.toNat - 48) : Nat) : Int) := by rw [IntWalk.i64_in _ (by omega)]; omega
            by_cases hg : most < 10 * m + (c.toNat - 48)
            · rw [digs_big hb hg] at hd
              have HD := hide hd
              clear hd
              obtain ⟨z, hz⟩ : ∃ z, 10 * m + (c.toNat - 48) = z := ⟨_, rfl⟩
              rw [hz] at hw3 hg
              have hg' : (most : Int) < (z : Int) := by omega
              clear hz
              go_wp2_with fail
              go_ret2
              rw [HGO.out, ← HD.out]
              exact ⟨rfl, 0, rfl⟩
            · rw [digs_go hb hg] at hd
              obtain ⟨z, hz⟩ : ∃ z, 10 * m + (c.toNat - 48) = z := ⟨_, rfl⟩
              rw [hz] at hw3 hg hd
              have HD := hide hd
              clear hd
              have hg' : ¬ (most : Int) < (z : Int) := by omega
              clear hz
              go_wp2_with fail
              go_round
              case rel => exact ⟨k + 1, z, by omega, by omega, by go_num, by simp, HD.out⟩
              case measure => simp [intOf]; omega
        · obtain rfl : k = s.size := by omega
          rw [← hsz, List.drop_length] at hd
          have HD := hide hd
          clear hd
          go_wp2_with fail
          go_ret2
          rw [HGO.out, ← HD.out]
          exact ⟨rfl, 0, rfl⟩
    · have hno := num_nought (most := most) (by rw [hh, h48]) hl
      have t3 : (s.toList == [48]) = false := by rw [ByteArray.toList_eq]; simpa using hl
      have HNO := hide hno
      clear hno hl hh h48 h0
      go_enter Tryd.func36, Tryd.ntmps36
      go_wp2_with fail
      go_ret2
      rw [HNO.out]
      exact ⟨rfl, 0, rfl⟩
  · have t2 : ¬ ((s[0].toNat : Nat) : Int) = 48 := fun e => h48 (UInt8.toNat_inj.1 (by have e2 : (48 : UInt8).toNat = 48 := rfl; omega))
    have hgo := num_go (most := most) h0 (.inl (by rw [hh]; intro e; injection e with e; exact h48 e))
    have HGO := hide hgo
    clear hgo hh h48 h0
    go_enter Tryd.func36, Tryd.ntmps36
    go_wp2_with fail
    go_loop [6, 21] (fun n i => ∃ k m : Nat, k ≤ s.size ∧ m ≤ most ∧ i = .int .i64 k ∧ n = .int .i64 m ∧ digs most m (s.data.toList.drop k) = digs most 0 s.data.toList) (fun _ i => s.size - (intOf i).toNat)
    case atStart => exact ⟨0, 0, Nat.zero_le _, Nat.zero_le _, rfl, rfl, by rw [List.drop_zero]⟩
    case round =>
      obtain ⟨k, m, hk, hmm, rfl, rfl, hd⟩ := hrel
      by_cases hlt : k < s.size
      · rw [get_byte s k hlt] at hd
        obtain ⟨c, hc⟩ : ∃ c, s[k] = c := ⟨_, rfl⟩
        rw [hc] at hd
        have c255 := c.toNat_lt
        by_cases hb : c.toNat < 48 ∨ 57 < c.toNat
        · rw [digs_bad hb] at hd
          have HD := hide hd
          clear hd
          rcases hb with hb | hb
          · have hb' : ((c.toNat : Nat) : Int) < 48 := by omega
            go_wp2_with fail
            go_ret2
            rw [HGO.out, ← HD.out]
            exact ⟨rfl, 0, rfl⟩
          · have hb' : ¬ ((c.toNat : Nat) : Int) < 48 := by omega
            have hb2 : (57 : Int) < ((c.toNat : Nat) : Int) := by omega
            go_wp2_with fail
            go_ret2
            rw [HGO.out, ← HD.out]
            exact ⟨rfl, 0, rfl⟩
        · have hb' : ¬ ((c.toNat : Nat) : Int) < 48 := by omega
          have hb2 : ¬ (57 : Int) < ((c.toNat : Nat) : Int) := by omega
          have hw1 : IntKind.u8.wrap ((c.toNat : Int) - 48) = ((c.toNat - 48 : Nat) : Int) := by rw [IntWalk.u8_in _ (by omega)]; omega
          have hw2 : IntKind.i64.wrap (10 * (m : Int)) = 10 * (m : Int) := IntWalk.i64_in _ (by omega)
          have hw4 : IntKind.i64.wrap ((c.toNat - 48 : Nat) : Int) = ((c.toNat - 48 : Nat) : Int) := IntWalk.i64_in _ (by omega)
          have hw3 : IntKind.i64.wrap (10 * (m : Int) + ((c.toNat - 48 : Nat) : Int)) = ((10 * m + (c.toNat - 48) : Nat) : Int) := by rw [IntWalk.i64_in _ (by omega)]; omega
          by_cases hg : most < 10 * m + (c.toNat - 48)
          · rw [digs_big hb hg] at hd
            have HD := hide hd
            clear hd
            obtain ⟨z, hz⟩ : ∃ z, 10 * m + (c.toNat - 48) = z := ⟨_, rfl⟩
            rw [hz] at hw3 hg
            have hg' : (most : Int) < (z : Int) := by omega
            clear hz
            go_wp2_with fail
            go_ret2
            rw [HGO.out, ← HD.out]
            exact ⟨rfl, 0, rfl⟩
          · rw [digs_go hb hg] at hd
            obtain ⟨z, hz⟩ : ∃ z, 10 * m + (c.toNat - 48) = z := ⟨_, rfl⟩
            rw [hz] at hw3 hg hd
            have HD := hide hd
            clear hd
            have hg' : ¬ (most : Int) < (z : Int) := by omega
            clear hz
            go_wp2_with fail
            go_round
            case rel => exact ⟨k + 1, z, by omega, by omega, by go_num, by simp, HD.out⟩
            case measure => simp [intOf]; omega
      · obtain rfl : k = s.size := by omega
        rw [← hsz, List.drop_length] at hd
        have HD := hide hd
        clear hd
        go_wp2_with fail
        go_ret2
        rw [HGO.out, ← HD.out]
        exact ⟨rfl, 0, rfl⟩
end Go.Proofs.YtgikkjjnoakhdaaDoor
