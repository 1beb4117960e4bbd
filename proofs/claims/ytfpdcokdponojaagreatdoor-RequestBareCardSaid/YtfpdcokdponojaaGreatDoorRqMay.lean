/- A first line that is written: mayStart; the message that a request is: message. -/
import Derived.Test.YtfpdcokdponojaaGreatDoorRqM6
import Derived.Test.YtfpdcokdponojaaGreatDoorRqM1
import Derived.Test.YtfpdcokdponojaaGreatDoorRqM3
import Derived.Test.YtfpdcokdponojaaGreatDoorRqOwn
namespace Go.Proofs.YtfpdcokdponojaaGreatDoor
open Go.RowKit Go.Lib

/-- May it be a first line that is written? -/
def staB (l : List UInt8) : Bool := decide (1 ≤ l.length ∧ l.length ≤ 578) && l.all priB
set_option maxRecDepth 100000 in
set_option maxHeartbeats 1000000 in
theorem mayStart_any (s : ByteArray) (hs : s.size ≤ 1000000) (w : World) : Calls Tryz.prog 49 #[.string s] w (fun e w' => e = .returned (.bool (staB s.data.toList)) ∧ Below w.heap.size w w') := by
  have hlen := size_list s
  by_cases h0 : s = ⟨#[]⟩
  · subst h0
    go_enter Tryz.func49, Tryz.ntmps49
    go_wp2_with fail
    go_ret
    exact ⟨rfl, Below.refl _ _⟩
  have hpos : 1 ≤ s.size := by
    rcases Nat.eq_zero_or_pos s.size with h | h
    · exact absurd (bytes_ext (show s.data.toList = [] from List.eq_nil_of_length_eq_zero (by omega))) h0
    · exact h
  have hne : s.toList.isEmpty = false := by
    rw [List.isEmpty_eq_false_iff, ByteArray.toList_eq]
    intro e
    rw [e] at hlen
    simp at hlen
    omega
  by_cases h2 : 578 < s.size
  · have hR : staB s.data.toList = false := by
      unfold staB
      rw [decide_eq_false (by omega), Bool.false_and]
    rw [hR]
    have h2' : (578 : Int) < (s.size : Int) := by omega
    clear hR hlen h0
    go_enter Tryz.func49, Tryz.ntmps49
    go_wp2_with fail
    go_ret
    exact ⟨rfl, Below.refl _ _⟩
  have h2' : ¬ (578 : Int) < (s.size : Int) := by omega
  obtain ⟨V, hV⟩ : ∃ V, s.data.toList.all priB = V := ⟨_, rfl⟩
  have hR : staB s.data.toList = V := by
    unfold staB
    rw [decide_eq_true (by omega), Bool.true_and, hV]
  rw [hR]
  have HV : HidL ((s.data.toList.drop 0).all priB = V) := ⟨hV⟩
  have HL := hideL hlen
  obtain ⟨n, hn⟩ : ∃ n, s.size = n := ⟨_, rfl⟩
  have HN := hideL hn
  clear hR hV hlen h2 hn h0 hpos
  go_enter Tryz.func49, Tryz.ntmps49
  go_wp2_with fail
  go_loopw [13] (fun i wr => ∃ k : Nat, k ≤ n ∧ i = .int .i64 k ∧ wr = w ∧ HidL ((s.data.toList.drop k).all priB = V)) (fun i _ => n - (RowKit.intOf i).toNat)
  case atStart => exact ⟨0, Nat.zero_le _, rfl, rfl, HV⟩
  case round =>
    obtain ⟨k, hk, rfl, rfl, HD⟩ := hrel
    clear HV
    by_cases hlt : k < n
    · have hks : k < s.size := by rw [HN.out]; exact hlt
      have hlt' : (k : Int) < (s.size : Int) := by omega
      have hD := HD.out
      rw [byte_at s k hks, List.all_cons] at hD
      obtain ⟨c, hc⟩ : ∃ c, s[k] = c := ⟨_, rfl⟩
      rw [hc] at hD
      by_cases hp : priB c = true
      · have hp2 := hp
        unfold priB at hp2
        rw [decide_eq_true_eq] at hp2
        have b1 : ¬ ((c.toNat : Int) < 32) := by omega
        have b2 : ¬ ((126 : Int) < (c.toNat : Int)) := by omega
        rw [hp, Bool.true_and] at hD
        have HD2 := hideL hD
        clear hp hp2 hD
        go_wp2_with fail
        go_roundw
        case rel => exact ⟨k + 1, by omega, by go_num, trivial, HD2⟩
        case measure => simp [RowKit.intOf]; omega
      · have hp1 : priB c = false := by simpa using hp
        rw [hp1, Bool.false_and] at hD
        subst hD
        have hp2 := hp
        unfold priB at hp2
        rw [decide_eq_true_eq] at hp2
        by_cases hc1 : c.toNat < 32
        · have b1 : ((c.toNat : Int) < 32) := by omega
          clear hp hp1 hp2
          go_wp2_with fail
          go_ret
          exact ⟨rfl, Below.refl _ _⟩
        · have b1 : ¬ ((c.toNat : Int) < 32) := by omega
          have b2 : ((126 : Int) < (c.toNat : Int)) := by omega
          clear hp hp1 hp2
          go_wp2_with fail
          go_ret
          exact ⟨rfl, Below.refl _ _⟩
    · obtain rfl : k = n := by omega
      have hlt' : ¬ (k : Int) < (s.size : Int) := by have := HN.out; omega
      have hD := HD.out
      rw [List.drop_of_length_le (by have := HN.out; have := HL.out; omega)] at hD
      have hV : V = true := hD.symm
      subst hV
      clear hD
      go_wp2_with fail
      go_ret
      exact ⟨rfl, Below.refl _ _⟩
theorem sta_bytes (m t : ByteArray) : (((m ++ ⟨#[32]⟩) ++ t) ++ ⟨#[32]⟩) ++ (⟨#[72, 84, 84, 80, 47, 49, 46, 49]⟩ : ByteArray) = bo (staP m.data.toList t.data.toList) := bytes_ext (by
  unfold staP http11
  simp [bo_list])
set_option maxRecDepth 100000 in
set_option maxHeartbeats 1000000 in
theorem message_any (m t p q o : ByteArray) (ha : Option Addr) (hn hc : Nat) (ba : Option Addr) (bn bc : Nat) (w : World) (hsz : m.size + t.size ≤ 1000000) : Calls Tryz.prog 54 #[.agg #[.string m, .string t, .string p, .string q, .string o, .slice ha hn hc, .slice ba bn bc]] w (fun e w' => e = .returned (.agg #[.string (bo (staP m.data.toList t.data.toList)), .slice ha hn hc, .slice ba bn bc]) ∧ Below w.heap.size w w') := by
  have hx : RBox7 42 (w.alloc (.cells #[.string m, .string t, .string p, .string q, .string o, .slice ha hn hc, .slice ba bn bc] 42)) w.heap.size (.string m) (.string t) (.string p) (.string q) (.string o) (.slice ha hn hc) (.slice ba bn bc) := heap_alloc_new w _
  have hb := (Below.refl w.heap.size w).alloc (Nat.le_refl _) (.cells #[.string m, .string t, .string p, .string q, .string o, .slice ha hn hc, .slice ba bn bc] 42)
  obtain ⟨s, hs⟩ : ∃ s, s = bo (staP m.data.toList t.data.toList) := ⟨_, rfl⟩
  have hsta := sta_bytes m t
  rw [← hs] at hsta ⊢
  have HS := hideL hsta
  obtain ⟨W, hW⟩ : ∃ W, W = w.alloc (.cells #[.string m, .string t, .string p, .string q, .string o, .slice ha hn hc, .slice ba bn bc] 42) := ⟨_, rfl⟩
  have hz : W.heap.size = w.heap.size + 1 := by rw [hW, World.size_alloc]
  rw [← hW] at hx hb
  have hx2 := hx.next ((Below.refl W.heap.size W).alloc (Nat.le_refl _) (rawC ⟨#[]⟩ (.slice none 0 0) (.slice none 0 0)))
  have hq : QBox (W.alloc (rawC ⟨#[]⟩ (.slice none 0 0) (.slice none 0 0))) W.heap.size ⟨#[]⟩ (.slice none 0 0) (.slice none 0 0) := heap_alloc_new W _
  have hb2 := hb.trans (((Below.refl W.heap.size W).alloc (Nat.le_refl _) (rawC ⟨#[]⟩ (.slice none 0 0) (.slice none 0 0))).mono hb.size)
  rw [hz] at hq
  have c0 := hx2.c0
  have c1 := hx2.c1
  have c5 := hx2.c5
  have c6 := hx2.c6
  have d0 := hq.c0
  have d1 := hq.c1
  have d2 := hq.c2
  have f0 := hq.fz 0
  have f1 := hq.fz 1
  have f2 := hq.fz 2
  rw [hW] at c0 c1 c5 c6 d0 d1 d2 f0 f1 f2
  simp only [rawC] at c0 c1 c5 c6 d0 d1 d2 f0 f1 f2
  have hq3 : QBox (W.alloc (rawC s (.slice ha hn hc) (.slice ba bn bc))) W.heap.size s (.slice ha hn hc) (.slice ba bn bc) := heap_alloc_new W _
  rw [hz] at hq3
  have hb3 := hb.trans (((Below.refl W.heap.size W).alloc (Nat.le_refl _) (rawC s (.slice ha hn hc) (.slice ba bn bc))).mono hb.size)
  rw [hW] at hq3 hb3
  have HQ3 := hideL hq3
  have HB3 := hideL hb3
  have n1 : ¬ 9223372036854775807 < m.size + 1 := by omega
  have n2 : ¬ 9223372036854775807 < m.size + 1 + t.size := by omega
  have n3 : ¬ 9223372036854775807 < m.size + 1 + t.size + 1 := by omega
  have n4 : ¬ 9223372036854775807 < m.size + 1 + t.size + 1 + 8 := by omega
  clear hb2 hW hx hb hx2 hq hz hs hsta hsz hq3 hb3
  go_enter Tryz.func54, Tryz.ntmps54
  go_wp2_with fail
  rw [HS.out]
  exact bodyPost_ret (v := .agg #[.string s, .slice ha hn hc, .slice ba bn bc]) (by
    have r0 := HQ3.out.c0
    have r1 := HQ3.out.c1
    have r2 := HQ3.out.c2
    simp only [rawC] at r0 r1 r2
    simp [results, Tryz.results54, go_sem, r0, r1, r2]) rfl ⟨rfl, HB3.out⟩
end Go.Proofs.YtfpdcokdponojaaGreatDoor
