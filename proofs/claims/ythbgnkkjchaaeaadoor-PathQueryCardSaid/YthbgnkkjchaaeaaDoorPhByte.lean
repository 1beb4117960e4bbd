/- What bytes may: the program's mayStand, isPlain, noPathHas, none. -/
import Derived.Test.YthbgnkkjchaaeaaDoorPhStr
namespace Go.Proofs.YthbgnkkjchaaeaaDoor
open Go.RowKit Go.Lib

theorem u8_back (c : UInt8) : ((c.toNat : Nat) : Int).toNat.toUInt8 = c := by simp
set_option maxRecDepth 100000 in
set_option maxHeartbeats 400000 in
theorem mayStand_any (c : UInt8) (w : World) : Calls Tryd.prog 36 #[.int .u8 c.toNat] w (fun e w' => e = .returned (.bool (stB c)) ∧ w' = w) := by
  obtain ⟨V, hV⟩ : ∃ V, Lib.indexByte nevL c = V := ⟨_, rfl⟩
  have HX := hideL (fun W : World => indexByte_any ⟨#[34, 35, 60, 62, 92, 94, 96, 123, 124, 125]⟩ (c.toNat : Int) W)
  rw [u8_back] at HX
  have HX : HidL (∀ W : World, Calls Tryd.prog 43 #[.string ⟨#[34, 35, 60, 62, 92, 94, 96, 123, 124, 125]⟩, .int .u8 c.toNat] W (fun e w' => e = .returned (.int .i64 V) ∧ w' = W)) := ⟨fun W => by rw [← hV]; exact HX.out W⟩
  obtain ⟨n, hn⟩ : ∃ n, c.toNat = n := ⟨_, rfl⟩
  have hR : stB c = decide (33 ≤ n ∧ n ≤ 126 ∧ V < 0) := by
    unfold stB
    apply decide_eq_decide.2
    rw [← hn, ← hV, idx_iff]
  rw [hR]
  rw [hn] at HX ⊢
  clear hR hV hn
  by_cases h1 : 33 ≤ n
  · have i1 : (33 : Int) ≤ (n : Int) := by omega
    by_cases h2 : n ≤ 126
    · have i2 : (n : Int) ≤ 126 := by omega
      by_cases h3 : V < 0
      · rw [decide_eq_true ⟨h1, h2, h3⟩]
        clear h1 h2
        go_enter Tryd.func36, Tryd.ntmps36
        go_wp2_with (go_at_call 43; refine (HX.out _).mono ?_; rintro e w2 ⟨rfl, rfl⟩)
        go_ret
        exact ⟨rfl, rfl⟩
      · rw [decide_eq_false (fun h => h3 h.2.2)]
        clear h1 h2
        go_enter Tryd.func36, Tryd.ntmps36
        go_wp2_with (go_at_call 43; refine (HX.out _).mono ?_; rintro e w2 ⟨rfl, rfl⟩)
        go_ret
        refine ⟨?_, rfl⟩
        rw [← decide_eq_false (show ¬ V < 0 by omega)]
        rfl
    · have i2 : ¬ (n : Int) ≤ 126 := by omega
      rw [decide_eq_false (fun h => h2 h.2.1)]
      clear h1 h2 HX
      go_enter Tryd.func36, Tryd.ntmps36
      go_wp2_with fail
      go_ret
      exact ⟨rfl, rfl⟩
  · have i1 : ¬ (33 : Int) ≤ (n : Int) := by omega
    rw [decide_eq_false (fun h => h1 h.1)]
    clear h1 HX
    go_enter Tryd.func36, Tryd.ntmps36
    go_wp2_with fail
    go_ret
    exact ⟨rfl, rfl⟩
theorem plB_idx (c : UInt8) (h : ¬ (97 ≤ c.toNat ∧ c.toNat ≤ 122)) (h2 : ¬ (65 ≤ c.toNat ∧ c.toNat ≤ 90)) (h3 : ¬ (48 ≤ c.toNat ∧ c.toNat ≤ 57)) : plB c = decide (0 ≤ Lib.indexByte [45, 46, 95, 126] c) := by
  unfold plB
  apply decide_eq_decide.2
  have hi : Lib.indexByte [45, 46, 95, 126] c < 0 ↔ c ∉ ([45, 46, 95, 126] : List UInt8) := idx_iff
  have hm : c ∈ ([45, 46, 95, 126] : List UInt8) ↔ (c.toNat = 45 ∨ c.toNat = 46 ∨ c.toNat = 95 ∨ c.toNat = 126) := by
    simp only [List.mem_cons, List.not_mem_nil, or_false, ← UInt8.toNat_inj]
    rfl
  rw [hm] at hi
  generalize Lib.indexByte [45, 46, 95, 126] c = V at *
  omega
set_option maxRecDepth 100000 in
set_option maxHeartbeats 1000000 in
theorem isPlain_any (c : UInt8) (w : World) : Calls Tryd.prog 34 #[.int .u8 c.toNat] w (fun e w' => e = .returned (.bool (plB c)) ∧ w' = w) := by
  have HX := hideL (fun W : World => indexByte_any ⟨#[45, 46, 95, 126]⟩ (c.toNat : Int) W)
  rw [u8_back] at HX
  by_cases hl : 97 ≤ c.toNat ∧ c.toNat ≤ 122
  · have hR : plB c = true := decide_eq_true (.inr (.inr (.inl hl)))
    have i1 : (97 : Int) ≤ (c.toNat : Int) := by omega
    have i2 : (c.toNat : Int) ≤ 122 := by omega
    rw [hR]
    clear hl hR HX
    generalize c.toNat = n at *
    go_enter Tryd.func34, Tryd.ntmps34
    go_wp2_with fail
    go_ret
    exact ⟨rfl, rfl⟩
  · have i1 : (decide ((97 : Int) ≤ (c.toNat : Int)) && decide ((c.toNat : Int) ≤ 122)) = false := by
      rw [Bool.and_eq_false_iff, decide_eq_false_iff_not, decide_eq_false_iff_not]; omega
    by_cases hu : 65 ≤ c.toNat ∧ c.toNat ≤ 90
    · have hR : plB c = true := decide_eq_true (.inr (.inl hu))
      have i3 : ¬ (97 : Int) ≤ (c.toNat : Int) := by omega
      have i4 : (65 : Int) ≤ (c.toNat : Int) := by omega
      have i5 : (c.toNat : Int) ≤ 90 := by omega
      rw [hR]
      clear hl hu hR HX i1
      generalize c.toNat = n at *
      go_enter Tryd.func34, Tryd.ntmps34
      go_wp2_with fail
      go_ret
      exact ⟨rfl, rfl⟩
    · by_cases hd : 48 ≤ c.toNat ∧ c.toNat ≤ 57
      · have hR : plB c = true := decide_eq_true (.inl hd)
        have i3 : ¬ (97 : Int) ≤ (c.toNat : Int) := by omega
        have i4 : ¬ (65 : Int) ≤ (c.toNat : Int) := by omega
        have i5 : (48 : Int) ≤ (c.toNat : Int) := by omega
        have i6 : (c.toNat : Int) ≤ 57 := by omega
        rw [hR]
        clear hl hu hd hR HX i1
        generalize c.toNat = n at *
        go_enter Tryd.func34, Tryd.ntmps34
        go_wp2_with fail
        go_ret
        exact ⟨rfl, rfl⟩
      · rw [plB_idx c hl hu hd]
        have HX : HidL (∀ W : World, Calls Tryd.prog 43 #[.string ⟨#[45, 46, 95, 126]⟩, .int .u8 c.toNat] W (fun e w' => e = .returned (.int .i64 (Lib.indexByte [45, 46, 95, 126] c)) ∧ w' = W)) := ⟨fun W => HX.out W⟩
        generalize Lib.indexByte [45, 46, 95, 126] c = V at *
        have H : c.toNat < 48 ∨ (57 < c.toNat ∧ c.toNat < 65) ∨ (90 < c.toNat ∧ c.toNat < 97) ∨ 122 < c.toNat := by omega
        clear i1 hl hu hd
        generalize c.toNat = n at *
        rcases H with H | ⟨H, H2⟩ | ⟨H, H2⟩ | H
        · have i1 : ¬ (97 : Int) ≤ n := by omega
          have i2 : ¬ (65 : Int) ≤ n := by omega
          have i3 : ¬ (48 : Int) ≤ n := by omega
          go_enter Tryd.func34, Tryd.ntmps34
          go_wp2_with (go_at_call 43; refine (HX.out _).mono ?_; rintro e w2 ⟨rfl, rfl⟩)
          go_ret
          exact ⟨rfl, rfl⟩
        · have i1 : ¬ (97 : Int) ≤ n := by omega
          have i2 : ¬ (65 : Int) ≤ n := by omega
          have i3 : (48 : Int) ≤ n := by omega
          have i4 : ¬ (n : Int) ≤ 57 := by omega
          go_enter Tryd.func34, Tryd.ntmps34
          go_wp2_with (go_at_call 43; refine (HX.out _).mono ?_; rintro e w2 ⟨rfl, rfl⟩)
          go_ret
          exact ⟨rfl, rfl⟩
        · have i1 : ¬ (97 : Int) ≤ n := by omega
          have i2 : (65 : Int) ≤ n := by omega
          have i5 : ¬ (n : Int) ≤ 90 := by omega
          have i3 : (48 : Int) ≤ n := by omega
          have i4 : ¬ (n : Int) ≤ 57 := by omega
          go_enter Tryd.func34, Tryd.ntmps34
          go_wp2_with (go_at_call 43; refine (HX.out _).mono ?_; rintro e w2 ⟨rfl, rfl⟩)
          go_ret
          exact ⟨rfl, rfl⟩
        · have i1 : (97 : Int) ≤ n := by omega
          have i6 : ¬ (n : Int) ≤ 122 := by omega
          have i2 : (65 : Int) ≤ n := by omega
          have i5 : ¬ (n : Int) ≤ 90 := by omega
          have i3 : (48 : Int) ≤ n := by omega
          have i4 : ¬ (n : Int) ≤ 57 := by omega
          go_enter Tryd.func34, Tryd.ntmps34
          go_wp2_with (go_at_call 43; refine (HX.out _).mono ?_; rintro e w2 ⟨rfl, rfl⟩)
          go_ret
          exact ⟨rfl, rfl⟩
set_option maxRecDepth 100000 in
set_option maxHeartbeats 400000 in
theorem noPath_any (c : UInt8) (w : World) : Calls Tryd.prog 22 #[.int .u8 c.toNat] w (fun e w' => e = .returned (.bool (badR c)) ∧ w' = w) := by
  unfold badR
  generalize c.toNat = n at *
  by_cases h1 : n < 32
  · rw [decide_eq_true (.inl h1)]
    have i1 : (n : Int) < 32 := by omega
    go_enter Tryd.func22, Tryd.ntmps22
    go_wp2_with fail
    go_ret
    exact ⟨rfl, rfl⟩
  · have i1 : ¬ (n : Int) < 32 := by omega
    by_cases h2 : n = 127
    · subst h2
      rw [decide_eq_true (.inr (.inl rfl))]
      go_enter Tryd.func22, Tryd.ntmps22
      go_wp2_with fail
      go_ret
      exact ⟨rfl, rfl⟩
    · have i2 : ((n : Int) == 127) = false := beq_eq_false_iff_ne.2 (by omega)
      by_cases h3 : n = 47
      · subst h3
        rw [decide_eq_true (.inr (.inr (.inl rfl)))]
        go_enter Tryd.func22, Tryd.ntmps22
        go_wp2_with fail
        go_ret
        exact ⟨rfl, rfl⟩
      · have i3 : ((n : Int) == 47) = false := beq_eq_false_iff_ne.2 (by omega)
        by_cases h4 : n = 92
        · subst h4
          rw [decide_eq_true (.inr (.inr (.inr rfl)))]
          go_enter Tryd.func22, Tryd.ntmps22
          go_wp2_with fail
          go_ret
          exact ⟨rfl, rfl⟩
        · have i4 : ((n : Int) == 92) = false := beq_eq_false_iff_ne.2 (by omega)
          rw [decide_eq_false (by omega)]
          clear h1 h2 h3 h4
          go_enter Tryd.func22, Tryd.ntmps22
          go_wp2_with fail
          go_ret
          exact ⟨rfl, rfl⟩
set_option maxRecDepth 100000 in
theorem none_any (c : UInt8) (w : World) : Calls Tryd.prog 23 #[.int .u8 c.toNat] w (fun e w' => e = .returned (.bool (nobad c)) ∧ w' = w) := by
  go_enter Tryd.func23, Tryd.ntmps23
  go_wp2_with fail
  go_ret
  exact ⟨rfl, rfl⟩
end Go.Proofs.YthbgnkkjchaaeaaDoor
