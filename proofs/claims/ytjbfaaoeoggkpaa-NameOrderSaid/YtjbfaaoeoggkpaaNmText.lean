/- The document's way to compare two texts. -/
import Derived.Test.YtjbfaaoeoggkpaaNmLab
namespace Go.Proofs.Ytjbfaaoeoggkpaa
open Go.RowKit Go.Lib

theorem cmp_step {x y : UInt8} {p q : List UInt8} : cmpL (x :: p) (y :: q) = if x.toNat < y.toNat then -1 else if y.toNat < x.toNat then 1 else cmpL p q := rfl
theorem cmp_nil_cons (x : UInt8) (q : List UInt8) : cmpL [] (x :: q) = -1 := rfl
theorem cmp_cons_nil (x : UInt8) (q : List UInt8) : cmpL (x :: q) [] = 1 := rfl

set_option maxRecDepth 100000 in
set_option maxHeartbeats 400000 in
theorem textR_any (s t : ByteArray) (hs : s.size ≤ 9223372036854775807) (_ht : t.size ≤ 9223372036854775807) (w : World) : Calls Try.prog 23 #[.string s, .string t] w (fun e w' => e = .returned (.int .i64 (cmpL s.data.toList t.data.toList)) ∧ ∃ n, w' = w.drewN n) := by
  have hsz := size_list s
  have htz := size_list t
  obtain ⟨V, hV⟩ : ∃ v, cmpL s.data.toList t.data.toList = v := ⟨_, rfl⟩
  rw [hV]
  have HV := hideL hV
  clear hV
  go_enter Try.func23, Try.ntmps23
  go_wp2_with fail
  go_loopw [5] (fun i wr => ∃ k n : Nat, wr = w.drewN n ∧ k ≤ s.size ∧ k ≤ t.size ∧ i = .int .i64 k ∧ HidL (cmpL (s.data.toList.drop k) (t.data.toList.drop k) = V)) (fun i _ => s.size - (intOf i).toNat)
  case atStart => exact ⟨0, 0, rfl, Nat.zero_le _, Nat.zero_le _, rfl, HV⟩
  case round =>
    obtain ⟨k, n, rfl, hk, hk2, rfl, hd⟩ := hrel
    clear HV
    replace hd := hd.out
    by_cases hlt : k < s.size
    · rw [byte_at s k hlt] at hd
      by_cases hlt2 : k < t.size
      · rw [byte_at t k hlt2, cmp_step] at hd
        obtain ⟨c, hc⟩ : ∃ c, s[k] = c := ⟨_, rfl⟩
        obtain ⟨d, hdd⟩ : ∃ c, t[k] = c := ⟨_, rfl⟩
        rw [hc, hdd] at hd
        have c255 := c.toNat_lt
        have d255 := d.toNat_lt
        rcases Nat.lt_trichotomy c.toNat d.toNat with h | h | h
        · rw [if_pos h] at hd
          subst hd
          have h' : ((c.toNat : Nat) : Int) < d.toNat := by omega
          go_wp2_with (go_region)
          go_ret
          exact ⟨rfl, n + 1, rfl⟩
        · rw [if_neg (by omega), if_neg (by omega)] at hd
          have HD := hideL hd
          clear hd
          have h' : ¬ ((c.toNat : Nat) : Int) < d.toNat := by omega
          have h2' : ¬ ((d.toNat : Nat) : Int) < c.toNat := by omega
          go_wp2_with (go_region)
          go_roundw
          case rel => exact ⟨k + 1, n + 2, rfl, by omega, by omega, by go_num, HD⟩
          case measure => simp [intOf]; omega
        · rw [if_neg (by omega), if_pos h] at hd
          subst hd
          have h' : ¬ ((c.toNat : Nat) : Int) < d.toNat := by omega
          have h2' : ((d.toNat : Nat) : Int) < c.toNat := by omega
          go_wp2_with (go_region)
          go_ret
          exact ⟨rfl, n + 2, rfl⟩
      · obtain rfl : k = t.size := by omega
        rw [List.drop_of_length_le (l := t.data.toList) (by omega), cmp_cons_nil] at hd
        subst hd
        have h' : ¬ (s.size : Int) < t.size := by omega
        have h2' : (t.size : Int) < s.size := by omega
        go_wp2_with fail
        go_ret
        exact ⟨rfl, n, rfl⟩
    · obtain rfl : k = s.size := by omega
      rw [List.drop_of_length_le (l := s.data.toList) (by omega)] at hd
      by_cases hlt2 : s.size < t.size
      · rw [byte_at t _ hlt2, cmp_nil_cons] at hd
        subst hd
        have h' : (s.size : Int) < t.size := by omega
        go_wp2_with fail
        go_ret
        exact ⟨rfl, n, rfl⟩
      · rw [List.drop_of_length_le (l := t.data.toList) (by omega)] at hd
        have hV : V = 0 := hd.symm
        subst hV
        have h' : ¬ (s.size : Int) < t.size := by omega
        have h2' : ¬ (t.size : Int) < s.size := by omega
        go_wp2_with fail
        go_ret
        exact ⟨rfl, n, rfl⟩
end Go.Proofs.Ytjbfaaoeoggkpaa
