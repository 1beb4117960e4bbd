/- The document's Label. -/
import Derived.Test.YtaomigfmjglggaaDoorProg
import Derived.Test.YtaomigfmjglggaaDoorNmTry
import Derived.WalkKit
import Derived.WalkSpells
import Derived.WalkLawsBesides
import Derived.IntWalk
import Derived.Outline
import Derived.Deep.QuietTactic
import Derived.BigQuiet
import Derived.Laws.Strings
import Derived.WideShapes
namespace Go.Proofs.YtaomigfmjglggaaDoor
open Go.RowKit Go.Lib

structure HidL (p : Prop) : Prop where
  out : p
theorem hideL {p : Prop} (h : p) : HidL p := ⟨h⟩
theorem byte_at (s : ByteArray) (k : Nat) (h : k < s.size) : s.data.toList.drop k = s[k] :: s.data.toList.drop (k + 1) := by
  have h2 : k < s.data.toList.length := by rw [Array.length_toList]; exact h
  rw [List.drop_eq_getElem_cons h2]
  congr 1
theorem size_list (s : ByteArray) : s.data.toList.length = s.size := by rw [Array.length_toList]; rfl
theorem byte_head (s : ByteArray) (h : 0 < s.size) : s.data.toList.head? = some s[0] := by
  have h2 := byte_at s 0 h
  rw [List.drop_zero] at h2
  rw [h2]
  rfl
theorem byte_last (s : ByteArray) (h : s.size - 1 < s.size) : s.data.toList.getLast? = some s[s.size - 1] := by
  rw [List.getLast?_eq_getElem?, size_list]
  have h2 : s.size - 1 < s.data.toList.length := by rw [size_list]; exact h
  rw [List.getElem?_eq_getElem h2]
  congr 1
theorem lab_short {l : List UInt8} (h : l.length < 1) : labelS l = false := by
  unfold labelS
  rw [show decide (1 ≤ l.length) = false from decide_eq_false (by omega)]
  rfl
theorem lab_long {l : List UInt8} (h : 20 < l.length) : labelS l = false := by
  unfold labelS
  rw [show decide (l.length ≤ 20) = false from decide_eq_false (by omega)]
  simp
theorem lab_head {l : List UInt8} (h : l.head? = some 45) : labelS l = false := by
  unfold labelS
  rw [show decide (l.head? ≠ some 45) = false from decide_eq_false (by rw [h]; simp)]
  simp
theorem lab_last {l : List UInt8} (h : l.getLast? = some 45) : labelS l = false := by
  unfold labelS
  rw [show decide (l.getLast? ≠ some 45) = false from decide_eq_false (by rw [h]; simp)]
  simp
theorem lab_all {l : List UInt8} (h1 : 1 ≤ l.length) (h2 : l.length ≤ 20) (h3 : l.head? ≠ some 45) (h4 : l.getLast? ≠ some 45) : labelS l = l.all labB := by
  unfold labelS
  rw [decide_eq_true h1, decide_eq_true h2, decide_eq_true h3, decide_eq_true h4]
  rfl
theorem labB_yes {c : UInt8} (h : labB c = true) : ((c.toNat : Nat) : Int) = 45 ∨ (¬ ((c.toNat : Nat) : Int) = 45 ∧ (48 : Int) ≤ c.toNat ∧ ((c.toNat : Nat) : Int) ≤ 57) ∨ (¬ ((c.toNat : Nat) : Int) = 45 ∧ (57 : Int) < c.toNat ∧ (97 : Int) ≤ c.toNat ∧ ((c.toNat : Nat) : Int) ≤ 122) := by
  unfold labB at h
  simp only [Bool.or_eq_true, Bool.and_eq_true, decide_eq_true_eq] at h
  rcases h with (h | ⟨h, h2⟩) | ⟨h, h2⟩
  · subst h
    exact .inl rfl
  · exact .inr (.inl (by omega))
  · exact .inr (.inr (by omega))
theorem labB_no {c : UInt8} (h : labB c = false) : ¬ ((c.toNat : Nat) : Int) = 45 ∧ (((c.toNat : Nat) : Int) < 48 ∨ ((48 : Int) ≤ c.toNat ∧ (57 : Int) < c.toNat ∧ ((c.toNat : Nat) : Int) < 97) ∨ ((48 : Int) ≤ c.toNat ∧ (57 : Int) < c.toNat ∧ (97 : Int) ≤ c.toNat ∧ (122 : Int) < c.toNat)) := by
  unfold labB at h
  simp only [Bool.or_eq_false_iff, Bool.and_eq_false_iff, decide_eq_false_iff_not] at h
  obtain ⟨⟨h1, h2⟩, h3⟩ := h
  refine ⟨fun h => h1 (UInt8.toNat_inj.1 (show c.toNat = 45 by omega)), ?_⟩
  omega

set_option maxRecDepth 100000 in
set_option maxHeartbeats 400000 in
theorem labelR_any (s : ByteArray) (hs : s.size ≤ 9223372036854775807) (w : World) : Calls Tryd.prog 45 #[.string s] w (fun e w' => e = .returned (.bool (labelS s.data.toList)) ∧ ∃ n, w' = w.drewN n) := by
  have hsz := size_list s
  by_cases h1 : s.size < 1
  · rw [lab_short (by omega)]
    have h1' : (s.size : Int) < 1 := by omega
    go_enter Tryd.func45, Tryd.ntmps45
    go_wp2_with fail
    go_ret
    exact ⟨rfl, 0, rfl⟩
  by_cases h2 : 20 < s.size
  · rw [lab_long (by omega)]
    have h1' : ¬ (s.size : Int) < 1 := by omega
    have h2' : (20 : Int) < (s.size : Int) := by omega
    go_enter Tryd.func45, Tryd.ntmps45
    go_wp2_with fail
    go_ret
    exact ⟨rfl, 0, rfl⟩
  have hp : 0 < s.size := by omega
  have hp1 : s.size - 1 < s.size := by omega
  have h1' : ¬ (s.size : Int) < 1 := by omega
  have h2' : ¬ (20 : Int) < (s.size : Int) := by omega
  by_cases h3 : s[0] = 45
  · rw [lab_head (by rw [byte_head s hp, h3])]
    have h3' : ((s[0].toNat : Nat) : Int) = 45 := by rw [h3]; rfl
    go_enter Tryd.func45, Tryd.ntmps45
    go_wp2_with fail
    go_ret
    exact ⟨rfl, 0, rfl⟩
  have h3' : ¬ ((s[0].toNat : Nat) : Int) = 45 := fun h => h3 (UInt8.toNat_inj.1 (show s[0].toNat = 45 by omega))
  have h3b : (((s[0].toNat : Nat) : Int) == 45) = false := beq_eq_false_iff_ne.2 h3'
  by_cases h4 : s[s.size - 1] = 45
  · rw [lab_last (by rw [byte_last s hp1, h4])]
    have h4' : ((s[s.size - 1].toNat : Nat) : Int) = 45 := by rw [h4]; rfl
    have h4b : (((s[s.size - 1].toNat : Nat) : Int) == 45) = true := by rw [h4']; rfl
    clear h4
    go_enter Tryd.func45, Tryd.ntmps45
    go_wp2_with fail
    go_ret
    exact ⟨rfl, 0, rfl⟩
  have h4' : ¬ ((s[s.size - 1].toNat : Nat) : Int) = 45 := fun h => h4 (UInt8.toNat_inj.1 (show s[s.size - 1].toNat = 45 by omega))
  have h4b : (((s[s.size - 1].toNat : Nat) : Int) == 45) = false := beq_eq_false_iff_ne.2 h4'
  rw [lab_all (by omega) (by omega) (by rw [byte_head s hp]; simpa using h3) (by rw [byte_last s hp1]; simpa using h4)]
  clear h3 h4
  obtain ⟨B, hB⟩ : ∃ b, s.data.toList.all labB = b := ⟨_, rfl⟩
  rw [hB]
  have HB := hideL hB
  clear hB
  go_enter Tryd.func45, Tryd.ntmps45
  go_wp2_with fail
  go_loop [3] (fun i => ∃ k : Nat, k ≤ s.size ∧ i = .int .i64 k ∧ HidL ((s.data.toList.drop k).all labB = B)) (fun i => s.size - (intOf i).toNat)
  case atStart => exact ⟨0, Nat.zero_le _, rfl, HB⟩
  case round =>
    obtain ⟨k, hk, rfl, hd⟩ := hrel
    by_cases hlt : k < s.size
    · replace hd := hd.out
      rw [byte_at s k hlt, List.all_cons] at hd
      obtain ⟨c, hc⟩ : ∃ c, s[k] = c := ⟨_, rfl⟩
      rw [hc] at hd
      have HD := hideL hd
      clear hd
      have c255 := c.toNat_lt
      cases hl : labB c
      · have hB : B = false := by rw [← HD.out, hl]; rfl
        subst hB
        obtain ⟨hne, hl | ⟨hl1, hl2, hl3⟩ | ⟨hl1, hl2, hl3, hl4⟩⟩ := labB_no hl
        · have hne2 : (((c.toNat : Nat) : Int) != 45) = true := bne_iff_ne.2 hne
          have hx : ((c.toNat : Nat) : Int) < 97 := by omega
          go_wp2_with fail
          go_ret
          exact ⟨rfl, 0, rfl⟩
        · have hne2 : (((c.toNat : Nat) : Int) != 45) = true := bne_iff_ne.2 hne
          go_wp2_with fail
          go_ret
          exact ⟨rfl, 0, rfl⟩
        · have hne2 : (((c.toNat : Nat) : Int) != 45) = true := bne_iff_ne.2 hne
          go_wp2_with fail
          go_ret
          exact ⟨rfl, 0, rfl⟩
      · have hn := HD.out
        rw [hl, Bool.true_and] at hn
        have HN := hideL hn
        clear hn HD
        rcases labB_yes hl with hl1 | ⟨hne, hl1, hl2⟩ | ⟨hne, hl1, hl2, hl3⟩
        · have hne2 : (((c.toNat : Nat) : Int) != 45) = false := by rw [hl1]; rfl
          go_wp2_with fail
          go_round
          case rel => exact ⟨k + 1, by omega, by go_num, HN⟩
          case measure => simp [intOf]; omega
        · have hne2 : (((c.toNat : Nat) : Int) != 45) = true := bne_iff_ne.2 hne
          have hx : ¬ ((c.toNat : Nat) : Int) < 48 := by omega
          have hy : ¬ (57 : Int) < ((c.toNat : Nat) : Int) := by omega
          go_wp2_with fail
          go_round
          case rel => exact ⟨k + 1, by omega, by go_num, HN⟩
          case measure => simp [intOf]; omega
        · have hne2 : (((c.toNat : Nat) : Int) != 45) = true := bne_iff_ne.2 hne
          have hx : ¬ ((c.toNat : Nat) : Int) < 97 := by omega
          have hy : ¬ (122 : Int) < ((c.toNat : Nat) : Int) := by omega
          go_wp2_with fail
          go_round
          case rel => exact ⟨k + 1, by omega, by go_num, HN⟩
          case measure => simp [intOf]; omega
    · obtain rfl : k = s.size := by omega
      replace hd := hd.out
      rw [List.drop_of_length_le (by omega)] at hd
      have hB : B = true := by rw [← hd]; rfl
      subst hB
      go_wp2_with fail
      go_ret
      exact ⟨rfl, 0, rfl⟩
end Go.Proofs.YtaomigfmjglggaaDoor
