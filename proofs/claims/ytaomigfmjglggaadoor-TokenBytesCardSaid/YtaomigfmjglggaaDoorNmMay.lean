/- MayLabel of the program: a range over a string. -/
import Derived.Test.YtaomigfmjglggaaDoorNmBase
import Derived.Laws.RangeString
import Derived.Laws.RangeAny
import Derived.Laws.Runes
namespace Go.Proofs.YtaomigfmjglggaaDoor
open Go.RowKit Go.Lib

def plainI (c : Int) : Bool := (decide (97 ≤ c) && decide (c ≤ 122)) || (decide (48 ≤ c) && decide (c ≤ 57))
/-- What stands at place i of a label. -/
def okAt (l : List UInt8) (i : Nat) : Prop := plainI ((l.getD i 0).toNat : Nat) = true ∨ (l.getD i 0 = 45 ∧ 0 < i ∧ i + 1 < l.length)
theorem labB_plain (c : UInt8) : labB c = (decide (c = 45) || plainI (c.toNat : Nat)) := by
  unfold labB plainI
  by_cases h : c = 45
  · simp [h]
  · have h1 : (decide (48 ≤ c.toNat) : Bool) = decide ((48 : Int) ≤ (c.toNat : Nat)) := by rw [decide_eq_decide]; omega
    have h2 : (decide (c.toNat ≤ 57) : Bool) = decide (((c.toNat : Nat) : Int) ≤ 57) := by rw [decide_eq_decide]; omega
    have h3 : (decide (97 ≤ c.toNat) : Bool) = decide ((97 : Int) ≤ (c.toNat : Nat)) := by rw [decide_eq_decide]; omega
    have h4 : (decide (c.toNat ≤ 122) : Bool) = decide (((c.toNat : Nat) : Int) ≤ 122) := by rw [decide_eq_decide]; omega
    rw [h1, h2, h3, h4, decide_eq_false h, Bool.false_or, Bool.false_or, Bool.or_comm]
theorem label_ok {l : List UInt8} (h1 : 1 ≤ l.length) (h2 : l.length ≤ 20) (h : ∀ i, i < l.length → okAt l i) : labelS l = true := by
  have hp45 : ¬ plainI ((45 : UInt8).toNat : Nat) = true := by decide
  have a1 : l.head? ≠ some 45 := by
    intro e
    have e0 : l.getD 0 0 = 45 := by simp [List.getD, ← List.head?_eq_getElem?, e]
    rcases h 0 (by omega) with h3 | ⟨_, h4, _⟩
    · rw [e0] at h3; exact hp45 h3
    · omega
  have a2 : l.getLast? ≠ some 45 := by
    intro e
    have e0 : l.getD (l.length - 1) 0 = 45 := by simp [List.getD, ← List.getLast?_eq_getElem?, e]
    rcases h (l.length - 1) (by omega) with h3 | ⟨_, _, h4⟩
    · rw [e0] at h3; exact hp45 h3
    · omega
  rw [lab_all h1 h2 a1 a2, List.all_eq_true]
  intro c hc
  obtain ⟨i, hi, rfl⟩ := List.getElem_of_mem hc
  rw [labB_plain]
  have e0 : l.getD i 0 = l[i] := by simp [List.getD, hi]
  rcases h i hi with h3 | ⟨h3, _⟩
  · rw [← e0, h3, Bool.or_true]
  · rw [← e0, h3]; rfl
theorem label_not {l : List UInt8} {i : Nat} (hi : i < l.length) (h : ¬ okAt l i) : labelS l = false := by
  cases hl : labelS l with
  | false => rfl
  | true =>
    exfalso
    apply h
    have e0 : l.getD i 0 = l[i] := by simp [List.getD, hi]
    unfold labelS at hl
    simp only [Bool.and_eq_true, decide_eq_true_eq] at hl
    obtain ⟨⟨⟨⟨h1, h2⟩, h3⟩, h4⟩, h5⟩ := hl
    have h6 := List.all_eq_true.1 h5 l[i] (List.getElem_mem hi)
    rw [labB_plain, Bool.or_eq_true, decide_eq_true_eq] at h6
    rcases h6 with h6 | h6
    · refine .inr ⟨e0.trans h6, ?_, ?_⟩
      · apply Nat.pos_of_ne_zero
        rintro rfl
        exact h3 (by rw [List.head?_eq_getElem?, List.getElem?_eq_getElem hi, h6])
      · apply Nat.lt_of_le_of_ne (by omega)
        intro e
        exact h4 (by rw [List.getLast?_eq_getElem?, show l.length - 1 = i by omega, List.getElem?_eq_getElem hi, h6])
    · exact .inl (by rw [e0]; exact h6)

set_option maxRecDepth 100000 in
theorem plain_any (c : Int) (w : World) : Calls Tryd.prog 69 #[.int .i32 c] w (fun e w' => e = .returned (.bool (plainI c)) ∧ w' = w) := by
  unfold plainI
  by_cases h1 : (97 : Int) ≤ c
  · by_cases h2 : c ≤ 122
    · rw [decide_eq_true h1, decide_eq_true h2]
      go_enter Tryd.func69, Tryd.ntmps69
      go_wp2_with fail
      go_ret
      exact ⟨rfl, rfl⟩
    · have h3 : (48 : Int) ≤ c := by omega
      have h4 : ¬ c ≤ (57 : Int) := by omega
      rw [decide_eq_true h1, decide_eq_false h2, decide_eq_true h3, decide_eq_false h4]
      go_enter Tryd.func69, Tryd.ntmps69
      go_wp2_with fail
      go_ret
      exact ⟨rfl, rfl⟩
  · by_cases h3 : (48 : Int) ≤ c
    · by_cases h4 : c ≤ (57 : Int)
      · rw [decide_eq_false h1, decide_eq_true h3, decide_eq_true h4]
        go_enter Tryd.func69, Tryd.ntmps69
        go_wp2_with fail
        go_ret
        exact ⟨by simp, rfl⟩
      · rw [decide_eq_false h1, decide_eq_true h3, decide_eq_false h4]
        go_enter Tryd.func69, Tryd.ntmps69
        go_wp2_with fail
        go_ret
        exact ⟨by simp, rfl⟩
    · rw [decide_eq_false h1, decide_eq_false h3]
      go_enter Tryd.func69, Tryd.ntmps69
      go_wp2_with fail
      go_ret
      exact ⟨by simp, rfl⟩

theorem list_get (s : ByteArray) (k : Nat) (h : k < s.size) : s.data.toList.getD k 0 = s[k] := by
  have h2 := byte_at s k h
  have h3 := congrArg List.head? h2
  rw [List.head?_drop] at h3
  simp only [List.getD, h3, List.head?_cons, Option.getD_some]

theorem below_iter (w : World) (s : ByteArray) (k : Nat) : Below w.heap.size w (w.iter s k) := (Below.refl w.heap.size w).alloc (Nat.le_refl _) (.stringIter s k)

set_option maxRecDepth 100000 in
set_option maxHeartbeats 400000 in
theorem label_any (s : ByteArray) (hs : s.size ≤ 9223372036854775807) (w : World) : Calls Tryd.prog 44 #[.string s] w (fun e w' => e = .returned (.bool (labelS s.data.toList)) ∧ Below w.heap.size w w') := by
  have hsz := size_list s
  by_cases h0 : s.size = 0
  · have he : (s.toList == ([] : List UInt8)) = true := by
      rw [ByteArray.toList_eq, List.eq_nil_of_length_eq_zero (hsz.trans h0)]; rfl
    rw [lab_short (by omega)]
    go_enter Tryd.func44, Tryd.ntmps44
    go_wp2_with fail
    go_ret
    exact ⟨rfl, Below.refl _ _⟩
  have he : (s.toList == ([] : List UInt8)) = false := by
    rw [ByteArray.toList_eq]
    refine beq_eq_false_iff_ne.2 fun e => h0 ?_
    rw [← hsz, e]; rfl
  by_cases h2 : 20 < s.size
  · rw [lab_long (by omega)]
    have h2' : (20 : Int) < (s.size : Int) := by omega
    go_enter Tryd.func44, Tryd.ntmps44
    go_wp2_with fail
    go_ret
    exact ⟨rfl, Below.refl _ _⟩
  have h2' : ¬ (20 : Int) < (s.size : Int) := by omega
  have h3 : s.size ≤ 20 := by omega
  have hsub : IntKind.i64.wrap ((s.size : Int) - 1) = ((s.size - 1 : Nat) : Int) := by rw [IntWalk.i64_in _ (by omega)]; omega
  have HOK := hideL (@label_ok s.data.toList (by omega) (by omega))
  have HNO := hideL (@label_not s.data.toList)
  obtain ⟨V, hV⟩ : ∃ v, labelS s.data.toList = v := ⟨_, rfl⟩
  rw [hV] at HOK HNO ⊢
  clear hV
  obtain ⟨last, hlast⟩ : ∃ x, s.size - 1 = x := ⟨_, rfl⟩
  rw [hlast] at hsub
  go_enter Tryd.func44, Tryd.ntmps44
  go_wp2_with fail
  have HB := hideL ((Below.refl w.heap.size w).alloc (Nat.le_refl _) (.stringIter s 0))
  go_loopw [4] (fun _ wr => ∃ k : Nat, wr = w.iter s k ∧ k ≤ s.size ∧ HidL (∀ i, i < k → okAt s.data.toList i)) (fun _ wr => s.size - wr.iterPos w.heap.size)
  case atStart => exact ⟨0, rfl, Nat.zero_le _, ⟨fun _ h => absurd h (by omega)⟩⟩
  case round =>
    obtain ⟨k, rfl, hk, hall⟩ := hrel
    by_cases hlt : k < s.size
    · obtain ⟨R, hR⟩ : ∃ r, (Utf8.decode s k).1 = r := ⟨_, rfl⟩
      obtain ⟨k', hk'⟩ : ∃ r, k + (Utf8.decode s k).2 = r := ⟨_, rfl⟩
      have hnx : ∀ ty, (Instr.next (.pointer (some ⟨w.heap.size, 0, none⟩)) true ty).run Tryd.prog (w.iter s k) = .ok (.tuple #[.bool true, .int .i64 k, .int .i32 (R : Nat)]) (w.iter s k') := fun ty => by rw [← hR, ← hk']; exact run_next_any w s k ty hlt
      have HP := hideL (plain_any ((R : Nat) : Int))
      have hget := list_get s k hlt
      have hdec : plainI ((R : Nat) : Int) = true ∨ ((R : Nat) : Int) = 45 → ((s.data.toList.getD k 0).toNat : Nat) = R ∧ k' = k + 1 := by
        rw [hget]
        intro h
        by_cases ha : (s[k]'hlt).toNat < 128
        · rw [decode_ascii s k hlt ha] at hR hk'
          exact ⟨hR, hk'.symm⟩
        · have hh := (decode_high s k hlt (by omega)).1
          rw [hR] at hh
          exfalso
          rcases h with h | h
          · unfold plainI at h
            rw [decide_eq_false (by omega : ¬ ((R : Nat) : Int) ≤ 122), decide_eq_false (by omega : ¬ ((R : Nat) : Int) ≤ 57)] at h
            simp at h
          · omega
      have hbyte : okAt s.data.toList k → ((R : Nat) : Int) ≠ 45 → plainI ((R : Nat) : Int) = true := by
        intro h hne
        have hlow : (s[k]'hlt).toNat < 128 := by
          rcases h with h | ⟨h, _⟩
          · rw [hget] at h
            unfold plainI at h
            simp only [Bool.or_eq_true, Bool.and_eq_true, decide_eq_true_eq] at h
            omega
          · rw [hget] at h; rw [h]; decide
        rw [decode_ascii s k hlt hlow] at hR
        rcases h with h | ⟨h, _⟩
        · rw [hget, show (s[k]'hlt).toNat = R from hR] at h; exact h
        · rw [hget] at h; rw [← hR, h] at hne; exact absurd rfl hne
      have hkk : k ≤ last ∧ (last + 1 = s.size) := by omega
      obtain ⟨pl, hpl⟩ : ∃ b, plainI ((R : Nat) : Int) = b := ⟨_, rfl⟩
      rw [hpl] at HP hdec hbyte
      have hcase : (pl = true ∧ okAt s.data.toList k ∧ k' = k + 1) ∨ (pl = false ∧ (((R : Nat) : Int) == 45) = true ∧ 0 < k ∧ k < last ∧ okAt s.data.toList k ∧ k' = k + 1) ∨ (pl = false ∧ (((R : Nat) : Int) == 45) = true ∧ ¬ (0 < k ∧ k < last) ∧ ¬ okAt s.data.toList k) ∨ (pl = false ∧ (((R : Nat) : Int) == 45) = false ∧ ¬ okAt s.data.toList k) := by
        cases pl with
        | true =>
          obtain ⟨h1, h2⟩ := hdec (.inl rfl)
          refine .inl ⟨rfl, .inl ?_, h2⟩
          rw [h1]; exact hpl
        | false =>
          by_cases hr : ((R : Nat) : Int) = 45
          · obtain ⟨h1, h2⟩ := hdec (.inr hr)
            have hb : s.data.toList.getD k 0 = 45 := UInt8.toNat_inj.1 (show _ = 45 by omega)
            by_cases hin : 0 < k ∧ k < last
            · exact .inr (.inl ⟨rfl, beq_iff_eq.2 hr, hin.1, hin.2, .inr ⟨hb, hin.1, by omega⟩, h2⟩)
            · refine .inr (.inr (.inl ⟨rfl, beq_iff_eq.2 hr, hin, ?_⟩))
              rintro (h | ⟨_, h, h'⟩)
              · rw [h1, hpl] at h; cases h
              · exact hin ⟨h, by omega⟩
          · exact .inr (.inr (.inr ⟨rfl, beq_eq_false_iff_ne.2 hr, fun h => by have := hbyte h hr; cases this⟩))
      clear hdec hbyte hpl hget hR hk'
      rcases hcase with ⟨rfl, hok, rfl⟩ | ⟨rfl, hr, hk1, hk2, hok, rfl⟩ | ⟨rfl, hr, hin, hno⟩ | ⟨rfl, hr, hno⟩
      · have HN := hideL (fun i (h1 : i < k + 1) => if hi : i < k then hall.out i hi else (show i = k by omega) ▸ hok)
        clear hok HOK HNO hall
        by_cases hk0 : (0 : Int) < (k : Int)
        · by_cases hkl : (k : Int) < (last : Int)
          · go_wp2_with (go_at_call 69; refine (HP.out _).mono ?_; rintro e w2 ⟨rfl, rfl⟩)
            go_roundw
            case rel => exact ⟨k + 1, rfl, by omega, HN⟩
            case measure => simp; omega
          · go_wp2_with (go_at_call 69; refine (HP.out _).mono ?_; rintro e w2 ⟨rfl, rfl⟩)
            go_roundw
            case rel => exact ⟨k + 1, rfl, by omega, HN⟩
            case measure => simp; omega
        · go_wp2_with (go_at_call 69; refine (HP.out _).mono ?_; rintro e w2 ⟨rfl, rfl⟩)
          go_roundw
          case rel => exact ⟨k + 1, rfl, by omega, HN⟩
          case measure => simp; omega
      · have HN := hideL (fun i (h1 : i < k + 1) => if hi : i < k then hall.out i hi else (show i = k by omega) ▸ hok)
        clear hok HOK HNO hall
        have hk0 : (0 : Int) < (k : Int) := by omega
        have hkl : (k : Int) < (last : Int) := by omega
        go_wp2_with (go_at_call 69; refine (HP.out _).mono ?_; rintro e w2 ⟨rfl, rfl⟩)
        go_roundw
        case rel => exact ⟨k + 1, rfl, by omega, HN⟩
        case measure => simp; omega
      · have hv : V = false := HNO.out (by omega) hno
        subst hv
        clear hno HOK HNO hall
        by_cases hk0 : (0 : Int) < (k : Int)
        · by_cases hkl : (k : Int) < (last : Int)
          · exact absurd ⟨by omega, by omega⟩ hin
          · go_wp2_with (go_at_call 69; refine (HP.out _).mono ?_; rintro e w2 ⟨rfl, rfl⟩)
            go_ret
            exact ⟨rfl, below_iter w s _⟩
        · go_wp2_with (go_at_call 69; refine (HP.out _).mono ?_; rintro e w2 ⟨rfl, rfl⟩)
          go_ret
          exact ⟨rfl, below_iter w s _⟩
      · have hv : V = false := HNO.out (by omega) hno
        subst hv
        clear hno HOK HNO hall
        by_cases hk0 : (0 : Int) < (k : Int)
        · by_cases hkl : (k : Int) < (last : Int)
          · go_wp2_with (go_at_call 69; refine (HP.out _).mono ?_; rintro e w2 ⟨rfl, rfl⟩)
            go_ret
            exact ⟨rfl, below_iter w s _⟩
          · go_wp2_with (go_at_call 69; refine (HP.out _).mono ?_; rintro e w2 ⟨rfl, rfl⟩)
            go_ret
            exact ⟨rfl, below_iter w s _⟩
        · go_wp2_with (go_at_call 69; refine (HP.out _).mono ?_; rintro e w2 ⟨rfl, rfl⟩)
          go_ret
          exact ⟨rfl, below_iter w s _⟩
    · obtain rfl : k = s.size := by omega
      have hv : V = true := HOK.out (fun i hi => hall.out i (by omega))
      have hnx : ∀ ty, (Instr.next (.pointer (some ⟨w.heap.size, 0, none⟩)) true ty).run Tryd.prog (w.iter s s.size) = _ := fun ty => run_next_end w s s.size ty (Nat.lt_irrefl _)
      subst hv
      go_wp2_with fail
      go_ret
      exact ⟨rfl, below_iter w s _⟩
end Go.Proofs.YtaomigfmjglggaaDoor
